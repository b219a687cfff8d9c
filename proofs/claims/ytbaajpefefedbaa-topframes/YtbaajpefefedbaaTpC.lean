/- TopFrames: messages in a stream. -/
import Derived.Test.YtbaajpefefedbaaTpB
import Derived.Deep.CutBlock
namespace Go.Proofs.Ytbaajpefefedbaa
open Go.RowKit Go.Proofs.Fd Go.Proofs.Ml
set_option maxRecDepth 20000

/-- Their texts. -/
def mtx (W : List Mc) : List ByteArray := W.map fun x => mk (txt x.m)
theorem mtx_app (a b : List Mc) : mtx (a ++ b) = mtx a ++ mtx b := by unfold mtx; rw [List.map_append]
theorem mtx_len (a : List Mc) : (mtx a).length = a.length := by unfold mtx; rw [List.length_map]
theorem long_fit (k : Int) : long k ≤ 962 := by
  unfold long
  split
  · decide
  split
  · decide
  split
  · decide
  split
  · decide
  · decide
theorem mtx_fits {W : List Mc} (h : ∀ x ∈ W, okB x.m = true) : fits (mtx W) := by
  intro s hs
  obtain ⟨x, hx, rfl⟩ := List.mem_map.1 hs
  rw [mk_size, txt_len (h x hx)]
  have := long_fit x.m.k
  omega
def opt0 : Oper := { dst := some 119, op := Go.Op.move (Go.Operand.tmp 19), type := 27, pos := "top11.go:60", after := #[], guard := none }
def opt1 : Oper := { dst := some 120, op := Go.Op.binOp Go.BinOp.neq 27 (Go.Operand.tmp 119) (Go.Operand.const (Go.Value.int Go.IntKind.i64 0)) 27, type := 4, pos := "top11.go:60", after := #[{ on := 0, ground := Go.Ground.data }], guard := none }
def opt2 : Oper := { dst := some 121, op := Go.Op.move (Go.Operand.tmp 120), type := 4, pos := "top11.go:60", after := #[{ on := 1, ground := Go.Ground.data }], guard := none }
def opt3 : Oper := { dst := some 122, op := Go.Op.move (Go.Operand.tmp 13), type := 3, pos := "top11.go:60", after := #[{ on := 2, ground := Go.Ground.guard }], guard := some (2, false) }
def opt4 : Oper := { dst := some 123, op := Go.Op.move (Go.Operand.tmp 6), type := 39, pos := "top11.go:60", after := #[{ on := 2, ground := Go.Ground.guard }], guard := some (2, false) }
def opt5 : Oper := { dst := some 124, op := Go.Op.call { callee := Go.Callee.builtin Go.Builtin.len, args := #[Go.Operand.tmp 123], argTypes := #[39] }, type := 3, pos := "top11.go:60", after := #[{ on := 4, ground := Go.Ground.data }, { on := 2, ground := Go.Ground.guard }], guard := some (2, false) }
def opt6 : Oper := { dst := some 125, op := Go.Op.binOp Go.BinOp.geq 3 (Go.Operand.tmp 122) (Go.Operand.tmp 124) 3, type := 4, pos := "top11.go:60", after := #[{ on := 3, ground := Go.Ground.data }, { on := 5, ground := Go.Ground.data }, { on := 2, ground := Go.Ground.guard }], guard := some (2, false) }
def opt7 : Oper := { dst := some 126, op := Go.Op.pick (Go.Operand.tmp 121) (Go.Operand.const (Go.Value.bool true)) (Go.Operand.tmp 125), type := 4, pos := "top11.go:60", after := #[{ on := 2, ground := Go.Ground.data }, { on := 6, ground := Go.Ground.data }], guard := none }
def opt8 : Oper := { dst := some 127, op := Go.Op.move (Go.Operand.tmp 126), type := 4, pos := "top11.go:60", after := #[{ on := 7, ground := Go.Ground.data }, { on := 2, ground := Go.Ground.chain }], guard := none }
def opt9 : Oper := { dst := some 128, op := Go.Op.load 25 (Go.Operand.tmp 18), type := 25, pos := "top11.go:60", after := #[{ on := 8, ground := Go.Ground.guard }], guard := some (8, false) }
def opt10 : Oper := { dst := some 129, op := Go.Op.move (Go.Operand.tmp 6), type := 39, pos := "top11.go:60", after := #[{ on := 8, ground := Go.Ground.guard }], guard := some (8, false) }
def opt11 : Oper := { dst := some 130, op := Go.Op.move (Go.Operand.tmp 13), type := 3, pos := "top11.go:60", after := #[{ on := 8, ground := Go.Ground.guard }], guard := some (8, false) }
def opt12 : Oper := { dst := some 131, op := Go.Op.indexAddr 39 (Go.Operand.tmp 129) (Go.Operand.tmp 130), type := 0, pos := "top11.go:60", after := #[{ on := 10, ground := Go.Ground.data }, { on := 11, ground := Go.Ground.data }, { on := 8, ground := Go.Ground.guard }], guard := some (8, false) }
def opt13 : Oper := { dst := some 132, op := Go.Op.load 25 (Go.Operand.tmp 131), type := 25, pos := "top11.go:60", after := #[{ on := 12, ground := Go.Ground.data }, { on := 8, ground := Go.Ground.guard }], guard := some (8, false) }
def opt14 : Oper := { dst := some 133, op := Go.Op.call { callee := Go.Callee.value (Go.Operand.func 15), args := #[Go.Operand.tmp 128, Go.Operand.tmp 132], argTypes := #[25, 25] }, type := 4, pos := "top11.go:60", after := #[{ on := 9, ground := Go.Ground.data }, { on := 13, ground := Go.Ground.data }, { on := 8, ground := Go.Ground.chain }, { on := 8, ground := Go.Ground.guard }], guard := some (8, false) }
def opt15 : Oper := { dst := some 134, op := Go.Op.unOp Go.UnOp.not 4 (Go.Operand.tmp 133), type := 4, pos := "top11.go:60", after := #[{ on := 14, ground := Go.Ground.data }, { on := 8, ground := Go.Ground.guard }], guard := some (8, false) }
def opt16 : Oper := { dst := some 135, op := Go.Op.pick (Go.Operand.tmp 127) (Go.Operand.const (Go.Value.bool true)) (Go.Operand.tmp 134), type := 4, pos := "top11.go:60", after := #[{ on := 8, ground := Go.Ground.data }, { on := 15, ground := Go.Ground.data }], guard := none }
theorem chk_go2 {ks : List ByteArray} (hf : fits ks) {M : Nat} (hl : ks.length = M) (h40 : M ≤ 40) {j : Nat} {h : List UInt8} {s : ByteArray} (H : Chk ks j h s.data.toList) (m : Nat) :
    ∃ (j' : Nat) (h' : List UInt8), Chk ks j' h' (s.extract m s.size).data.toList ∧ Fr.takeE ⟨h, false⟩ (s.extract 0 m).data.toList = 0 ∧ Fr.takeR ⟨h, false⟩ (s.extract 0 m).data.toList = ⟨h ++ (s.extract 0 m).data.toList, false⟩ ∧ Fr.Good ⟨h ++ (s.extract 0 m).data.toList, false⟩ ∧ (tls ks).take j ++ Fr.drain (M + 1) ⟨h ++ (s.extract 0 m).data.toList, false⟩ = (tls ks).take j' ∧ Fr.left (M + 1) ⟨h ++ (s.extract 0 m).data.toList, false⟩ = ⟨h', false⟩ ∧ h.length ≤ 1048576 := by
  obtain ⟨h1, h2, h3⟩ := H
  rw [cut_at s m] at h2
  have hT := tls_fit hf
  have tl : (tls ks).length = M := by rw [tls_len, hl]
  have hd : ∀ x ∈ (tls ks).drop j, x.length ≤ 4096 := fun x hx => hT x (List.mem_of_mem_drop hx)
  rw [← List.append_assoc] at h2
  obtain ⟨k, h', k1, k2, k3, k4, k5⟩ := Fr.chunk_step ((tls ks).drop j) hd h (s.extract 0 m).data.toList (s.extract m s.size).data.toList h2
  have hb := Fr.ofl_bound ((tls ks).drop j) hd
  have hlen := congrArg List.length h2
  rw [List.length_append, List.length_append] at hlen
  have hd2 : ((tls ks).drop j).length ≤ 40 := by rw [List.length_drop]; omega
  have hs : (Fr.ofl ((tls ks).drop j)).length ≤ 246000 := Nat.le_trans hb (Nat.le_trans (Nat.mul_le_mul_right _ hd2) (by decide))
  obtain ⟨t1, t2⟩ := Fr.take_ok h (s.extract 0 m).data.toList k4 (by omega)
  obtain ⟨d1, d2⟩ := k5 (M + 1) (by rw [List.length_drop]; omega)
  rw [List.length_drop] at k1
  refine ⟨j + k, h', ⟨by omega, by rw [← List.drop_drop]; exact k2, k3⟩, t1, t2, ⟨k4, fun z => (by cases z), ?_⟩, ?_, d2, by omega⟩
  · show (h ++ (s.extract 0 m).data.toList).length ≤ 1048576
    rw [List.length_append]; omega
  · rw [d1, List.take_add]
theorem take_next {α : Type} (T : List α) (j j' : Nat) (s : α) (r : List α) (hj : j ≤ T.length) (e : T.take j ++ s :: r = T.take j') : ∃ h : j < T.length, T[j] = s ∧ T.take (j + 1) ++ r = T.take j' := by
  have l : (T.take j).length = j := by rw [List.length_take]; omega
  have e1 : (T.take j')[j]? = some s := by
    rw [← e, List.getElem?_append_right (by omega), l, Nat.sub_self]; rfl
  have hj' : j < T.length := by
    have := (List.getElem?_eq_some_iff.1 e1).1
    rw [List.length_take] at this
    omega
  have e2 : T[j]? = some s := by
    have h3 : j < j' := by
      have := (List.getElem?_eq_some_iff.1 e1).1
      rw [List.length_take] at this
      omega
    rw [List.getElem?_take_of_lt h3] at e1
    exact e1
  have e3 : T[j] = s := by
    rw [List.getElem?_eq_getElem hj'] at e2
    injection e2
  refine ⟨hj', e3, ?_⟩
  rw [List.take_succ_eq_append_getElem hj', e3, List.append_assoc]
  exact e
theorem take_same {α : Type} (T : List α) {j j' : Nat} (hj : j ≤ T.length) (hj' : j' ≤ T.length) (e : T.take j = T.take j') : j = j' := by
  have := congrArg List.length e
  rw [List.length_take, List.length_take] at this
  omega
set_option maxHeartbeats 8000000 in
theorem TopFrames_walk (a : Option Addr) (ms : List Mc) (n cap : Nat) (a2 : Option Addr) (cs : List Int) (n2 cap2 : Nat) (hn : Hid (ms.length = n)) (hn2 : Hid (cs.length = n2)) (w : World) (hc : Hid (MsAt w a ms)) (hL : Hid (∀ x ∈ ms, x.L w)) (hc2 : Hid (IntAt w a2 cs)) :
    Calls Try.prog 7 #[.slice a n cap, .slice a2 n2 cap2] w fun e w' => e = .returned (.bool true) ∧ Below w.heap.size w w' := by
  go_enter Try.func7, Try.ntmps7
  go_wp2_with fail
  refine Calls.mono (begins_any w) ?_
  rintro e w1 ⟨rfl, hb1⟩
  have B1 : Hid (Below w.heap.size w w1) := hb1
  clear hb1
  go_upto_block 0 with fail
  go_cut [5, 6, 7, 8, 9] from 22 to 54 (fun tv wv s7 s8 s9 wx => ∃ W : List Mc, (∃ k : Int, s7 = .int .i64 k) ∧ Hid (W.length ≤ 40 ∧ (∀ x ∈ W, okB x.m = true ∧ x.L w) ∧ wx.ownsRow w.heap.size 9 1 tv W.length (scells (mtx W)) ∧ wx.ownsRow w.heap.size 25 7 wv W.length (mcells W) ∧ Below w.heap.size w wx))
  case first =>
    go_wp2_with fail
    go_loopw [5, 6, 7] (fun tv wv iv wr => ∃ (k : Nat) (W : List Mc), k ≤ n ∧ k ≤ 40 ∧ iv = .int .i64 (k : Int) ∧ Hid (W.length ≤ k ∧ (∀ x ∈ W, okB x.m = true ∧ x.L w) ∧ wr.ownsRow w.heap.size 9 1 tv W.length (scells (mtx W)) ∧ wr.ownsRow w.heap.size 25 7 wv W.length (mcells W) ∧ Below w.heap.size w wr)) (fun _ _ iv _ => 40 - (intOf iv).toNat)
    case atStart => exact ⟨0, [], Nat.zero_le _, Nat.zero_le _, rfl, Nat.zero_le _, fun x hx => (by cases hx), World.ownsRow_nil _ _ _ _, World.ownsRow_nil _ _ _ _, B1.out⟩
    case round =>
      obtain ⟨k, W, hk1, hk2, rfl, I⟩ := hrel
      by_cases hlt : k < n
      · have g1 : (k : Int) < (n : Int) := by omega
        by_cases h40 : k < 40
        · have g2 : (k : Int) < 40 := by omega
          have hk' : k < ms.length := by rw [hn.out]; exact hlt
          obtain ⟨b, o, rfl, c0, c1, c2, c3, c4, c5, c6⟩ := hc.out.later I.out.2.2.2.2 k hk'
          have HL : Hid (ms[k].L w) := hL.out _ (List.getElem_mem hk')
          have CK : Hid (∀ w', Below w.heap.size w w' → w'.cell? ⟨b, o + k * 7, none⟩ = some (.int .i64 ms[k].m.k) ∧ w'.cell? ⟨b, o + k * 7 + 1, none⟩ = some (.int .i64 ms[k].m.u) ∧ w'.cell? ⟨b, o + k * 7 + 2, none⟩ = some (.int .i64 ms[k].m.q) ∧ w'.cell? ⟨b, o + k * 7 + 3, none⟩ = some (.string ms[k].m.t) ∧ w'.cell? ⟨b, o + k * 7 + 4, none⟩ = some (.string ms[k].m.g) ∧ w'.cell? ⟨b, o + k * 7 + 5, none⟩ = some (.slice ms[k].a ms[k].n ms[k].c) ∧ w'.cell? ⟨b, o + k * 7 + 6, none⟩ = some (.slice ms[k].a2 ms[k].n2 ms[k].c2)) := fun w' hb => by
            obtain ⟨b', o', e', d⟩ := hc.out.later hb k hk'
            cases e'
            exact d
          generalize ms[k] = x at c0 c1 c2 c3 c4 c5 c6 HL CK
          obtain ⟨⟨xk, xu, xq, xt, xg, xs, xi⟩, xa, xn, xc, xa2, xn2, xc2⟩ := x
          simp only at c0 c1 c2 c3 c4 c5 c6 CK
          cases hok : okB ⟨xk, xu, xq, xt, xg, xs, xi⟩ with
          | false =>
            go_wp2_with fail
            refine Calls.mono (encode_no xk xu xq xt xg xa xn xc xa2 xn2 xc2 xs xi hok wr (HL.out.later I.out.2.2.2.2)) ?_
            rintro e w2 ⟨rfl, hb2⟩
            have I2 : Hid (W.length ≤ k + 1 ∧ (∀ x ∈ W, okB x.m = true ∧ x.L w) ∧ w2.ownsRow w.heap.size 9 1 u5 W.length (scells (mtx W)) ∧ w2.ownsRow w.heap.size 25 7 u6 W.length (mcells W) ∧ Below w.heap.size w w2) := ⟨by have := I.out.1; omega, I.out.2.1, own_later I.out.2.2.1 hb2, own_later I.out.2.2.2.1 hb2, chain I.out.2.2.2.2 hb2⟩
            clear hb2 I c0 c1 c2 c3 c4 c5 c6 hok
            unfold e0
            go_wp2
            go_roundw
            case rel => exact ⟨k + 1, W, by omega, by omega, by go_num, I2.out⟩
            case measure => simp [intOf]; omega
          | true =>
            go_wp2_with fail
            refine Calls.mono (encode_ok xk xu xq xt xg xa xn xc xa2 xn2 xc2 xs xi hok wr (HL.out.later I.out.2.2.2.2)) ?_
            rintro e w2 ⟨rfl, hb2⟩
            obtain ⟨T, hT⟩ : ∃ T, mk (txt ⟨xk, xu, xq, xt, xg, xs, xi⟩) = T := ⟨_, rfl⟩
            rw [hT]
            obtain ⟨X, hX⟩ : ∃ X : Mc, X = ⟨⟨xk, xu, xq, xt, xg, xs, xi⟩, xa, xn, xc, xa2, xn2, xc2⟩ := ⟨_, rfl⟩
            have wl : W.length ≤ 1000 := by have := I.out.1; omega
            have o2 := own_later I.out.2.2.1 hb2
            have m2 := own_later I.out.2.2.2.1 hb2
            have b2 := chain I.out.2.2.2.2 hb2
            obtain ⟨v3, w3, r3, o3, b3, k3⟩ := app_one w2 23 w.heap.size u5 W.length (mtx W) o2 T wl b2.size
            have m3 := own_stays m2 (own_unlike m2 o2 (by decide)) k3
            have b3' : Below w.heap.size w w3 := b2.trans b3
            obtain ⟨v4, w4, r4, o4, b4, k4⟩ := app_mail w3 39 w.heap.size u6 W.length W m3 X wl b3'.size
            have t4 := own_stays o3 (own_unlike o3 m3 (by decide)) k4
            have b4' : Below w.heap.size w w4 := b3'.trans b4
            have I4 : Hid ((W ++ [X]).length ≤ k + 1 ∧ (∀ x ∈ W ++ [X], okB x.m = true ∧ x.L w) ∧ w4.ownsRow w.heap.size 9 1 v3 (W ++ [X]).length (scells (mtx (W ++ [X]))) ∧ w4.ownsRow w.heap.size 25 7 v4 (W ++ [X]).length (mcells (W ++ [X])) ∧ Below w.heap.size w w4) := by
              rw [List.length_append, List.length_singleton, mtx_app]
              refine ⟨by have := I.out.1; omega, fun x hx => ?_, ?_, o4, b4'⟩
              · rcases List.mem_append.1 hx with hx | hx
                · exact I.out.2.1 x hx
                · rw [List.mem_singleton.1 hx, hX]; exact ⟨hok, HL.out⟩
              · show w4.ownsRow _ _ _ _ _ (scells (mtx W ++ [mk (txt X.m)]))
                rw [hX, hT]
                exact t4
            rw [hX] at r4
            simp only at r4
            obtain ⟨d0, d1, d2, d3, d4, d5, d6⟩ := CK.out w3 b3'
            have RR : Hid ((Builtin.append_ #[23, 23] 23 #[u5, .slice (some ⟨w2.heap.size, 0, none⟩) 1 1]).run Try.prog (w2.alloc (.cells #[.string T] 9)) = .ok v3 w3 ∧ (Builtin.append_ #[39, 39] 39 #[u6, .slice (some ⟨w3.heap.size, 0, none⟩) 1 1]).run Try.prog (w3.alloc (.cells #[.int .i64 xk, .int .i64 xu, .int .i64 xq, .string xt, .string xg, .slice xa xn xc, .slice xa2 xn2 xc2] 25)) = .ok v4 w4) := ⟨r3, r4⟩
            clear r3 r4 o3 b3 k3 m3 b3' o4 b4 k4 t4 b4' o2 m2 b2 hb2 c0 c1 c2 c3 c4 c5 c6 I hT hok CK
            have HX : Hid (X = ⟨⟨xk, xu, xq, xt, xg, xs, xi⟩, xa, xn, xc, xa2, xn2, xc2⟩) := hX
            clear hX
            go_wp2_with (first
              | (at_builtin; refine Go.Lib.wpList_append_run _ rfl _ _ _ _ rfl _ _ rfl rfl _ _ RR.out.1 ?_)
              | (at_builtin; refine Go.Lib.wpList_append_run _ rfl _ _ _ _ rfl _ _ rfl rfl _ _ RR.out.2 ?_))
            go_roundw
            case rel => exact ⟨k + 1, W ++ [X], by omega, by omega, by go_num, I4.out⟩
            case measure => simp [intOf]; omega
        · have g2 : ¬ (k : Int) < 40 := by omega
          go_wp2_with fail
          go_meet
          case rel => exact ⟨W, ⟨_, rfl⟩, by have := I.out.1; omega, I.out.2⟩
      · have g1 : ¬ (k : Int) < (n : Int) := by omega
        go_wp2_with fail
        go_meet
        case rel => exact ⟨W, ⟨_, rfl⟩, by have := I.out.1; omega, I.out.2⟩
  case rest =>
    obtain ⟨W, ⟨k7, rfl⟩, HW⟩ := hcut
    clear B1
    obtain ⟨lt, ta, tc, rfl, tS, tn⟩ := own_strAt HW.out.2.2.1
    obtain ⟨lw, wa, wcp, rfl, wS⟩ := own_msAt HW.out.2.2.2.1
    obtain ⟨M, hM⟩ : ∃ M, W.length = M := ⟨_, rfl⟩
    obtain ⟨ks, hks⟩ : ∃ ks, mtx W = ks := ⟨_, rfl⟩
    have fk : fitB ks = true := (fitB_iff ks).2 (by rw [← hks]; exact mtx_fits (fun x hx => (HW.out.2.1 x hx).1))
    have m40 : M ≤ 40 := by rw [← hM]; exact HW.out.1
    have lk : ks.length = M := by rw [← hks, mtx_len, hM]
    have fl : (frs ks).length ≤ 1000000 := by
      rw [frs_ofl]
      have := Fr.ofl_bound (tls ks) (tls_fit ((fitB_iff ks).1 fk))
      rw [tls_len, lk] at this
      omega
    have KS : Hid (mtx W = ks ∧ W.length = M ∧ fits ks ∧ ks.length = M ∧ (∀ x ∈ W, okB x.m = true ∧ x.L w) ∧ (frs ks).length ≤ 1000000) := ⟨hks, hM, (fitB_iff ks).1 fk, lk, HW.out.2.1, fl⟩
    have B2 : Hid (Below w.heap.size w wc ∧ MsAt wc wa W ∧ StrAt wc ta ks) := ⟨HW.out.2.2.2.2, wS, hks ▸ tS⟩
    rw [hM]
    have OFA := Of_all ta ks M tc lk (by omega) (by omega) wc B2.out.2.2
    rw [(of_yes fk).1, (of_yes fk).2] at OFA
    obtain ⟨s0, hs0⟩ : ∃ s, (⟨(frs ks).toArray⟩ : ByteArray) = s := ⟨_, rfl⟩
    rw [hs0] at OFA
    have C0 : Hid (Chk ks 0 [] s0.data.toList ∧ s0.size ≤ 1000000) := by
      refine ⟨⟨Nat.zero_le _, ?_, Fr.not_has_nil⟩, ?_⟩
      · rw [← hs0, List.nil_append, List.drop_zero, frs_ofl]
      · rw [← hs0]; simpa [ByteArray.size] using fl
    clear hks hM fk lk fl lt lw tS tn wS hs0 HW
    go_wp2_with fail
    refine Calls.mono OFA ?_
    rintro e w2 ⟨rfl, hb2⟩
    have B3 : Hid (Below w.heap.size w w2 ∧ MsAt w2 wa W) := ⟨chain B2.out.1 hb2, B2.out.2.1.later hb2⟩
    clear hb2 B2 OFA
    go_wp2_with fail
    refine Calls.mono (new_any w2) ?_
    rintro e w3 ⟨rfl, hr3, hb3, -⟩
    obtain ⟨p, hp⟩ : ∃ p, w2.heap.size = p := ⟨_, rfl⟩
    rw [hp] at hr3 ⊢
    have I3 : Hid (RdAt w3 p p ⟨[], false⟩ ∧ w.heap.size ≤ p ∧ MsAt w2 wa W ∧ w2.heap.size = p ∧ Below w.heap.size w w3 ∧ Below p w2 w3) := ⟨hr3, by rw [← hp]; exact B3.out.1.size, B3.out.2, hp, chain B3.out.1 hb3, hp ▸ hb3⟩
    clear hr3 hb3 hp
    go_wp2_with fail
    go_loopw [10, 13, 14] (fun al at' iv wr => ∃ (k j g : Nat) (sb : ByteArray) (h : List UInt8), iv = .int .i64 (k : Int) ∧ al = .string sb ∧ at' = .int .i64 (j : Int) ∧ sb.size ≤ 1000000 ∧ k ≤ 101 ∧ j ≤ M ∧ Hid (k ≤ 100 ∨ sb.size = 0) ∧ Hid (Chk ks j h sb.data.toList) ∧ Hid (RdAt wr p g ⟨h, false⟩ ∧ p ≤ g ∧ Below p w2 wr)) (fun _ _ iv _ => 300 - (intOf iv).toNat)
    case atStart => exact ⟨0, 0, p, s0, [], rfl, rfl, rfl, C0.out.2, by omega, Nat.zero_le _, .inl (by omega), C0.out.1, I3.out.1, Nat.le_refl _, I3.out.2.2.2.2.2⟩
    case round =>
      obtain ⟨k, j, g, sb, h, rfl, rfl, rfl, hsb, hk101, hj, K, C, I⟩ := hrel
      clear C0
      by_cases hs0 : 0 < sb.size
      · have gs : (0 : Int) < (sb.size : Int) := by omega
        have hk : k ≤ 100 := by rcases K.out with q | q <;> omega
        go_upto_region 23 with fail
        go_cut [81] (fun s81 wx => s81 = .bool (decide (k < n2 ∧ k < 100)) ∧ wr = wx)
        case first =>
          by_cases hcu : k < n2
          · have gk : (k : Int) < (n2 : Int) := by omega
            by_cases hc100 : k < 100
            · have g100 : (k : Int) < 100 := by omega
              go_wp2_with fail
              go_meet
              case rel => exact ⟨by rw [decide_eq_true ⟨hcu, hc100⟩], rfl⟩
            · have g100 : ¬ (k : Int) < 100 := by omega
              go_wp2_with fail
              go_meet
              case rel => exact ⟨by rw [decide_eq_false (fun z => hc100 z.2)], rfl⟩
          · have gk : ¬ (k : Int) < (n2 : Int) := by omega
            go_wp2_with fail
            go_meet
            case rel => exact ⟨by rw [decide_eq_false (fun z => hcu z.1)], rfl⟩
        case rest =>
          obtain ⟨rfl, hwx⟩ := hcut
          subst hwx
          go_upto_if 81 with fail
          go_cut [15] (fun s15 wx => ∃ m : Nat, s15 = .int .i64 (m : Int) ∧ m ≤ sb.size ∧ Hid (k < 100 ∨ m = sb.size) ∧ wr = wx)
          case first =>
            by_cases hcc : k < n2 ∧ k < 100
            · rw [decide_eq_true hcc]
              have gk : (k : Int) < (n2 : Int) := by omega
              have hk' : k < cs.length := by rw [hn2.out]; exact hcc.1
              obtain ⟨b, o, rfl, hcell⟩ := IntAt.later hc2.out (chain B3.out.1 (I3.out.2.2.2.1 ▸ I.out.2.2)) k hk'
              generalize cs[k] = c at hcell
              obtain ⟨m, hmm⟩ : ∃ m : Nat, (c % 18446744073709551616).toNat % (sb.size + 1) = m := ⟨_, rfl⟩
              have hm2' : m ≤ sb.size := by rw [← hmm]; have := Nat.mod_lt (c % 18446744073709551616).toNat (show 0 < sb.size + 1 by omega); omega
              have e0' : IntKind.i64.wrap ((sb.size : Int) + 1) = (sb.size : Int) + 1 := by rw [IntKind.wrap_i64]; omega
              have e1 : IntKind.u64.wrap ((sb.size : Int) + 1) = (sb.size : Int) + 1 := by rw [IntKind.wrap_u64]; omega
              have e2 : (IntKind.u64.wrap c).tmod ((sb.size : Int) + 1) = (m : Int) := by
                rw [IntKind.wrap_u64, Int.tmod_eq_emod_of_nonneg (by omega), ← hmm]
                have h1 : c % 18446744073709551616 = (((c % 18446744073709551616).toNat : Nat) : Int) := by omega
                have h2 : (sb.size : Int) + 1 = ((sb.size + 1 : Nat) : Int) := by omega
                rw [h2, h1]
                exact (Int.natCast_emod _ _).symm
              have e3 : IntKind.i64.wrap (m : Int) = (m : Int) := by rw [IntKind.wrap_i64]; omega
              have e7 : ¬ ((sb.size : Int) + 1 = 0) := by omega
              have h100 : Hid (k < 100) := hcc.2
              clear hmm hcc
              go_wp2_with fail
              go_meet
              case rel => exact ⟨m, rfl, hm2', .inl h100.out, rfl⟩
            · rw [decide_eq_false hcc]
              clear hcc
              go_wp2_with fail
              go_meet
              case rel => exact ⟨sb.size, rfl, Nat.le_refl _, .inr rfl, rfl⟩
          case rest =>
            obtain ⟨m, rfl, hms, HM, hwx⟩ := hcut
            subst hwx
            obtain ⟨j', h', Q1, Q2, Q3, Q4, Q5, Q6, Q7⟩ := chk_go2 KS.out.2.2.1 KS.out.2.2.2.1 m40 C.out m
            have TK : Hid (Calls Try.prog 22 #[.pointer (some ⟨p, 0, none⟩), .string (sb.extract 0 m)] wr fun e w' => e = .returned (.int .i64 0) ∧ (∃ g', RdAt w' p g' ⟨h ++ (sb.extract 0 m).data.toList, false⟩ ∧ (g' = g ∨ g' = p ∨ wr.heap.size ≤ g')) ∧ But p g wr w') := by
              have q := take_any p g ⟨h, false⟩ (sb.extract 0 m) wr I.out.1 Q7
              rw [Q2, Q3] at q
              exact q
            obtain ⟨X, hX⟩ : ∃ X, h ++ (sb.extract 0 m).data.toList = X := ⟨_, rfl⟩
            rw [hX] at TK Q4 Q5 Q6
            have QQ : Hid (Chk ks j' h' (sb.extract m sb.size).data.toList ∧ Fr.Good ⟨X, false⟩ ∧ (tls ks).take j ++ Fr.drain (M + 1) ⟨X, false⟩ = (tls ks).take j' ∧ Fr.left (M + 1) ⟨X, false⟩ = ⟨h', false⟩) := ⟨Q1, Q4, Q5, Q6⟩
            clear Q1 Q2 Q3 Q4 Q5 Q6 Q7 hX C
            have e5 : (m : Int) ≤ (sb.size : Int) := by omega
            have ZS : Hid ((sb.extract m sb.size).size = sb.size - m) := by show _ = _; rw [ByteArray.size_extract]; omega
            obtain ⟨sr, hsr⟩ : ∃ r, sb.extract m sb.size = r := ⟨_, rfl⟩
            rw [hsr] at QQ ZS
            have NW : IntKind.i64.wrap ((M : Int) + 1) = ((M + 1 : Nat) : Int) := by rw [IntKind.wrap_i64]; omega
            obtain ⟨N, hN⟩ : ∃ N, M + 1 = N := ⟨_, rfl⟩
            rw [hN] at QQ NW
            have HN : Hid (M + 1 = N) := hN
            clear hN
            go_wp2_with fail
            refine Calls.mono TK.out ?_
            rintro e w4 ⟨rfl, ⟨g4, hr4, hg4⟩, hb4⟩
            have I4 : Hid (RdAt w4 p g4 ⟨X, false⟩ ∧ p ≤ g4 ∧ Below p w2 w4) := by
              obtain ⟨i1, i2, i3⟩ := I.out
              have hps : p ≤ wr.heap.size := Nat.le_of_lt i1.lt
              exact ⟨hr4, by rcases hg4 with rfl | rfl | z; (· exact i2); (· exact Nat.le_refl _); exact Nat.le_trans hps z, i3.trans (hb4.below (Nat.le_refl _) i2 hps)⟩
            clear hr4 hg4 hb4 I TK
            have nb : N ≤ 41 := by have := HN.out; omega
            go_wp2_with fail
            go_loopw [13, 105] (fun at' iv wx => ∃ (kk jj gg f : Nat) (rk : Fr.Rd), iv = .int .i64 (kk : Int) ∧ kk ≤ N ∧ at' = .int .i64 (jj : Int) ∧ jj ≤ M ∧ Hid (kk + f = N ∧ (tls ks).take jj ++ Fr.drain f rk = (tls ks).take j' ∧ Fr.left f rk = ⟨h', false⟩ ∧ Fr.Good rk) ∧ Hid (RdAt wx p gg rk ∧ p ≤ gg ∧ Below p w2 wx)) (fun _ iv _ => N - (intOf iv).toNat)
            case atStart => exact ⟨0, j, g4, N, ⟨X, false⟩, rfl, Nat.zero_le _, rfl, hj, ⟨Nat.zero_add _, QQ.out.2.2.1, QQ.out.2.2.2, QQ.out.2.1⟩, I4.out⟩
            case round =>
              obtain ⟨kk, jj, gg, f, rk, rfl, hkk, rfl, hjj, J, I⟩ := hrel
              clear I4
              by_cases hkn : kk < N
              · have gk : (kk : Int) < (N : Int) := by omega
                obtain ⟨f, rfl⟩ : ∃ f', f = f' + 1 := ⟨f - 1, by have := J.out.1; omega⟩
                by_cases hh : Fr.has rk.h
                · obtain ⟨d1, d2⟩ := Fr.drain_go f rk hh
                  have T1 := J.out.2.1
                  rw [d1] at T1
                  obtain ⟨hjl, tj, tn⟩ := take_next (tls ks) jj j' _ _ (by rw [tls_len, KS.out.2.2.2.1]; exact hjj) T1
                  have hjM : jj < M := by rw [tls_len, KS.out.2.2.2.1] at hjl; exact hjl
                  have hjW : jj < W.length := by rw [KS.out.2.1]; exact hjM
                  have HW := KS.out.2.2.2.2.1 _ (List.getElem_mem hjW)
                  have ST : Fr.nextS rk = txt W[jj].m := by
                    rw [← tj]
                    have : (tls ks)[jj]? = some (txt W[jj].m) := by
                      unfold tls
                      rw [← KS.out.1]
                      unfold mtx
                      rw [List.getElem?_map, List.getElem?_map, List.getElem?_eq_getElem hjW]
                      rfl
                    rw [List.getElem?_eq_getElem hjl] at this
                    injection this
                  have NX : Hid (Calls Try.prog 23 #[.pointer (some ⟨p, 0, none⟩)] wr fun e w' => e = .returned (.tuple #[.string (mk (txt W[jj].m)), .bool true]) ∧ (∃ g', RdAt w' p g' (Fr.nextR rk) ∧ (g' = gg ∨ g' = p ∨ wr.heap.size ≤ g')) ∧ But p gg wr w') := by
                    have q := next_yes p gg rk wr I.out.1 J.out.2.2.2.2.2 hh
                    rw [ST] at q
                    exact q
                  have J2 : Hid (kk + 1 + f = N ∧ (tls ks).take (jj + 1) ++ Fr.drain f (Fr.nextR rk) = (tls ks).take j' ∧ Fr.left f (Fr.nextR rk) = ⟨h', false⟩ ∧ Fr.Good (Fr.nextR rk)) := ⟨by have := J.out.1; omega, tn, by rw [← d2]; exact J.out.2.2.1, Fr.next_good rk J.out.2.2.2⟩
                  have CW : Hid (∀ w', Below p w2 w' → ∃ b o, wa = some ⟨b, o, none⟩ ∧ w'.cell? ⟨b, o + jj * 7, none⟩ = some (.int .i64 W[jj].m.k) ∧ w'.cell? ⟨b, o + jj * 7 + 1, none⟩ = some (.int .i64 W[jj].m.u) ∧ w'.cell? ⟨b, o + jj * 7 + 2, none⟩ = some (.int .i64 W[jj].m.q) ∧ w'.cell? ⟨b, o + jj * 7 + 3, none⟩ = some (.string W[jj].m.t) ∧ w'.cell? ⟨b, o + jj * 7 + 4, none⟩ = some (.string W[jj].m.g) ∧ w'.cell? ⟨b, o + jj * 7 + 5, none⟩ = some (.slice W[jj].a W[jj].n W[jj].c) ∧ w'.cell? ⟨b, o + jj * 7 + 6, none⟩ = some (.slice W[jj].a2 W[jj].n2 W[jj].c2)) := fun w' hb => (I3.out.2.2.1.later (I3.out.2.2.2.1 ▸ hb)) jj hjW
                  have HL : Hid (okB W[jj].m = true ∧ W[jj].L w) := HW
                  generalize W[jj] = x at NX CW HL
                  obtain ⟨⟨xk, xu, xq, xt, xg, xs, xi⟩, xa, xn, xc, xa2, xn2, xc2⟩ := x
                  obtain ⟨T, hT⟩ : ∃ T, mk (txt ⟨xk, xu, xq, xt, xg, xs, xi⟩) = T := ⟨_, rfl⟩
                  simp only at NX CW HL
                  rw [hT] at NX
                  have DC : Hid (∀ V, Calls Try.prog 17 #[.string T] V fun e w' => ∃ a n c a2 n2 c2, e = .returned (.tuple #[mv xk xu xq xt xg a n c a2 n2 c2, .int .i64 0]) ∧ Lists w' a n c a2 n2 c2 xs xi ∧ Below V.heap.size V w') := fun V => by
                    have tz : T.size ≤ 140737488355328 := by
                      rw [← hT, mk_size, txt_len HL.out.1]
                      show long xk ≤ _
                      have := long_le xk
                      omega
                    refine Calls.mono (decode_any T tz V) ?_
                    rintro e w' ⟨v, rfl, hv, hb⟩
                    have E : de (by' T) = 0 ∧ dm (by' T) = ⟨xk, xu, xq, xt, xg, xs, xi⟩ := by
                      rw [← hT, by_mk]
                      unfold de dm
                      rw [(dec_txt HL.out.1).1, rd_back HL.out.1]; exact ⟨rfl, rfl⟩
                    rw [E.2] at hv
                    obtain ⟨a, n, c, a2, n2, c2, rfl, LL⟩ := hv
                    rw [E.1]
                    exact ⟨a, n, c, a2, n2, c2, rfl, LL, hb⟩
                  have gj : (jj : Int) < (M : Int) := by omega
                  have gj2 : ¬ (M : Int) ≤ (jj : Int) := by omega
                  have gj3 : decide ((M : Int) ≤ (jj : Int)) = false := decide_eq_false gj2
                  have gj4 : decide ((jj : Int) ≥ (M : Int)) = false := decide_eq_false gj2
                  clear hT ST tj tn hjl hjW HW T1 d1 d2 hh J
                  go_wp2_with fail
                  refine Calls.mono NX.out ?_
                  rintro e w5 ⟨rfl, ⟨g5, hr5, hg5⟩, hb5⟩
                  have I5 : Hid (RdAt w5 p g5 (Fr.nextR rk) ∧ p ≤ g5 ∧ Below p w2 w5) := by
                    obtain ⟨i1, i2, i3⟩ := I.out
                    have hps : p ≤ wr.heap.size := Nat.le_of_lt i1.lt
                    exact ⟨hr5, by rcases hg5 with rfl | rfl | z; (· exact i2); (· exact Nat.le_refl _); exact Nat.le_trans hps z, i3.trans (hb5.below (Nat.le_refl _) i2 hps)⟩
                  clear hr5 hg5 hb5 I NX
                  go_wp2_with fail
                  refine Calls.mono (DC.out w5) ?_
                  rintro e w6 ⟨ya, yn, yc, ya2, yn2, yc2, rfl, LL, hb6⟩
                  obtain ⟨V, hV⟩ : ∃ V, w6.alloc (.cells #[.int .i64 xk, .int .i64 xu, .int .i64 xq, .string xt, .string xg, .slice ya yn yc, .slice ya2 yn2 yc2] 25) = V := ⟨_, rfl⟩
                  obtain ⟨gv, hgv⟩ : ∃ g, w6.heap.size = g := ⟨_, rfl⟩
                  have F6 : Hid (RdAt V p g5 (Fr.nextR rk) ∧ p ≤ g5 ∧ Below p w2 V ∧ MlAt V gv xk xu xq xt xg ya yn yc ya2 yn2 yc2 ∧ Lists V ya yn yc ya2 yn2 yc2 xs xi ∧ Lists V xa xn xc xa2 xn2 xc2 xs xi) := by
                    have hb : ∀ o : Obj, Below w6.heap.size w6 (w6.alloc o) := fun o => (Below.refl _ _).alloc (Nat.le_refl _) _
                    have hps : p ≤ w5.heap.size := Nat.le_of_lt I5.out.1.lt
                    have hb7 : ∀ o : Obj, Below w5.heap.size w5 (w6.alloc o) := fun o => chain hb6 (hb o)
                    rw [← hV, ← hgv]
                    exact ⟨I5.out.1.later (hb7 _), I5.out.2.1, I5.out.2.2.trans ((hb7 _).mono hps), MlAt.new _ _ _ _ _ _ _ _ _ _ _ _ _, LL.later (hb _), HL.out.2.later (chain (chain B3.out.1 (I3.out.2.2.2.1 ▸ I5.out.2.2)) (hb7 _))⟩
                  clear LL hb6 DC I5
                  go_wp2_with fail
                  clear hV hgv
                  obtain ⟨b, o, rfl, c0, c1, c2', c3, c4, c5, c6⟩ := CW.out V F6.out.2.2.1
                  have MM := F6.out.2.2.2.1
                  have KP : Hid (∀ w', Below V.heap.size V w' → MlAt w' gv xk xu xq xt xg ya yn yc ya2 yn2 yc2 ∧ w'.cell? ⟨b, o + jj * 7, none⟩ = some (.int .i64 xk) ∧ w'.cell? ⟨b, o + jj * 7 + 1, none⟩ = some (.int .i64 xu) ∧ w'.cell? ⟨b, o + jj * 7 + 2, none⟩ = some (.int .i64 xq) ∧ w'.cell? ⟨b, o + jj * 7 + 3, none⟩ = some (.string xt) ∧ w'.cell? ⟨b, o + jj * 7 + 4, none⟩ = some (.string xg) ∧ w'.cell? ⟨b, o + jj * 7 + 5, none⟩ = some (.slice xa xn xc) ∧ w'.cell? ⟨b, o + jj * 7 + 6, none⟩ = some (.slice xa2 xn2 xc2)) := fun w' hb => ⟨MM.later hb, cell_later hb c0, cell_later hb c1, cell_later hb c2', cell_later hb c3, cell_later hb c4, cell_later hb c5, cell_later hb c6⟩
                  refine wp_region_noPanic ?_
                  refine wp_region_held_drew (S := fun w' => MlAt w' gv xk xu xq xt xg ya yn yc ya2 yn2 yc2 ∧ w'.cell? ⟨b, o + jj * 7, none⟩ = some (.int .i64 xk) ∧ w'.cell? ⟨b, o + jj * 7 + 1, none⟩ = some (.int .i64 xu) ∧ w'.cell? ⟨b, o + jj * 7 + 2, none⟩ = some (.int .i64 xq) ∧ w'.cell? ⟨b, o + jj * 7 + 3, none⟩ = some (.string xt) ∧ w'.cell? ⟨b, o + jj * 7 + 4, none⟩ = some (.string xg) ∧ w'.cell? ⟨b, o + jj * 7 + 5, none⟩ = some (.slice xa xn xc) ∧ w'.cell? ⟨b, o + jj * 7 + 6, none⟩ = some (.slice xa2 xn2 xc2)) (by kernel_rfl) (⟨MM, c0, c1, c2', c3, c4, c5, c6⟩) (fun hHeld => ?_)
                  have hb0 : Below V.heap.size V V.drew := (Below.refl _ _).drew
                  refine wpAnyH_take (i := 0) (oi := opt0) (v := ?_) rfl (by kernel_rfl) (by kernel_rfl) (by kernel_rfl) (fun _ _ _ h => h) (Or.inl ⟨by rfl, ?_⟩) (by assumption) ?_
                  rotate_left
                  · intro w' hSw
                    clear hSw
                    unfold opt0
                    first
                    | (go_simp; done)
                    | (go_simp; with_reducible rfl)
                  simp only [opt0, Act.put, List.setIfInBounds_toArray, List.set_cons_zero, List.set_cons_succ]
                  refine wpAnyH_take (i := 1) (oi := opt1) (v := ?_) rfl (by kernel_rfl) (by kernel_rfl) (by kernel_rfl) (fun _ _ _ h => h) (Or.inl ⟨by rfl, ?_⟩) (by assumption) ?_
                  rotate_left
                  · intro w' hSw
                    clear hSw
                    unfold opt1
                    first
                    | (go_simp; done)
                    | (go_simp; with_reducible rfl)
                  simp only [opt1, Act.put, List.setIfInBounds_toArray, List.set_cons_zero, List.set_cons_succ]
                  refine wpAnyH_take (i := 2) (oi := opt2) (v := ?_) rfl (by kernel_rfl) (by kernel_rfl) (by kernel_rfl) (fun _ _ _ h => h) (Or.inl ⟨by rfl, ?_⟩) (by assumption) ?_
                  rotate_left
                  · intro w' hSw
                    clear hSw
                    unfold opt2
                    first
                    | (go_simp; done)
                    | (go_simp; with_reducible rfl)
                  simp only [opt2, Act.put, List.setIfInBounds_toArray, List.set_cons_zero, List.set_cons_succ]
                  refine wpAnyH_take (i := 3) (oi := opt3) (v := ?_) rfl (by kernel_rfl) (by kernel_rfl) (by kernel_rfl) (fun _ _ _ h => h) (Or.inl ⟨by rfl, ?_⟩) (by assumption) ?_
                  rotate_left
                  · intro w' hSw
                    clear hSw
                    unfold opt3
                    first
                    | (go_simp; done)
                    | (go_simp; with_reducible rfl)
                  simp only [opt3, Act.put, List.setIfInBounds_toArray, List.set_cons_zero, List.set_cons_succ]
                  refine wpAnyH_take (i := 4) (oi := opt4) (v := ?_) rfl (by kernel_rfl) (by kernel_rfl) (by kernel_rfl) (fun _ _ _ h => h) (Or.inl ⟨by rfl, ?_⟩) (by assumption) ?_
                  rotate_left
                  · intro w' hSw
                    clear hSw
                    unfold opt4
                    first
                    | (go_simp; done)
                    | (go_simp; with_reducible rfl)
                  simp only [opt4, Act.put, List.setIfInBounds_toArray, List.set_cons_zero, List.set_cons_succ]
                  refine wpAnyH_take (i := 5) (oi := opt5) (v := ?_) rfl (by kernel_rfl) (by kernel_rfl) (by kernel_rfl) (fun _ _ _ h => h) (Or.inl ⟨by rfl, ?_⟩) (by assumption) ?_
                  rotate_left
                  · intro w' hSw
                    clear hSw
                    unfold opt5
                    first
                    | (go_simp; done)
                    | (go_simp; with_reducible rfl)
                  simp only [opt5, Act.put, List.setIfInBounds_toArray, List.set_cons_zero, List.set_cons_succ]
                  refine wpAnyH_take (i := 6) (oi := opt6) (v := .bool false) rfl (by kernel_rfl) (by kernel_rfl) (by kernel_rfl) (fun _ _ _ h => h) (Or.inl ⟨by rfl, ?_⟩) (by assumption) ?_
                  · intro w' hSw
                    clear hSw
                    unfold opt6
                    first
                    | (go_simp; done)
                    | (go_simp; with_reducible rfl)
                  simp only [opt6, Act.put, List.setIfInBounds_toArray, List.set_cons_zero, List.set_cons_succ]
                  refine wpAnyH_take (i := 7) (oi := opt7) (v := ?_) rfl (by kernel_rfl) (by kernel_rfl) (by kernel_rfl) (fun _ _ _ h => h) (Or.inl ⟨by rfl, ?_⟩) (by assumption) ?_
                  rotate_left
                  · intro w' hSw
                    clear hSw
                    unfold opt7
                    first
                    | (go_simp; done)
                    | (go_simp; with_reducible rfl)
                  simp only [opt7, Act.put, List.setIfInBounds_toArray, List.set_cons_zero, List.set_cons_succ]
                  refine wpAnyH_take (i := 8) (oi := opt8) (v := ?_) rfl (by kernel_rfl) (by kernel_rfl) (by kernel_rfl) (fun _ _ _ h => h) (Or.inl ⟨by rfl, ?_⟩) (by assumption) ?_
                  rotate_left
                  · intro w' hSw
                    clear hSw
                    unfold opt8
                    first
                    | (go_simp; done)
                    | (go_simp; with_reducible rfl)
                  simp only [opt8, Act.put, List.setIfInBounds_toArray, List.set_cons_zero, List.set_cons_succ]
                  refine wpAnyH_take (i := 9) (oi := opt9) (v := ?_) rfl (by kernel_rfl) (by kernel_rfl) (by kernel_rfl) (fun _ _ _ h => h) (Or.inl ⟨by rfl, ?_⟩) (by assumption) ?_
                  rotate_left
                  · intro w' hSw
                    obtain ⟨⟨-, y0, y1, y2, y3, y4, y5, y6⟩, x0, x1, x2, x3, x4, x5, x6⟩ := hSw
                    unfold opt9
                    first
                    | (go_simp; done)
                    | (go_simp; with_reducible rfl)
                  simp only [opt9, Act.put, List.setIfInBounds_toArray, List.set_cons_zero, List.set_cons_succ]
                  refine wpAnyH_take (i := 10) (oi := opt10) (v := ?_) rfl (by kernel_rfl) (by kernel_rfl) (by kernel_rfl) (fun _ _ _ h => h) (Or.inl ⟨by rfl, ?_⟩) (by assumption) ?_
                  rotate_left
                  · intro w' hSw
                    clear hSw
                    unfold opt10
                    first
                    | (go_simp; done)
                    | (go_simp; with_reducible rfl)
                  simp only [opt10, Act.put, List.setIfInBounds_toArray, List.set_cons_zero, List.set_cons_succ]
                  refine wpAnyH_take (i := 11) (oi := opt11) (v := ?_) rfl (by kernel_rfl) (by kernel_rfl) (by kernel_rfl) (fun _ _ _ h => h) (Or.inl ⟨by rfl, ?_⟩) (by assumption) ?_
                  rotate_left
                  · intro w' hSw
                    clear hSw
                    unfold opt11
                    first
                    | (go_simp; done)
                    | (go_simp; with_reducible rfl)
                  simp only [opt11, Act.put, List.setIfInBounds_toArray, List.set_cons_zero, List.set_cons_succ]
                  refine wpAnyH_take (i := 12) (oi := opt12) (v := ?_) rfl (by kernel_rfl) (by kernel_rfl) (by kernel_rfl) (fun _ _ _ h => h) (Or.inl ⟨by rfl, ?_⟩) (by assumption) ?_
                  rotate_left
                  · intro w' hSw
                    clear hSw
                    unfold opt12
                    first
                    | (go_simp; done)
                    | (go_simp; with_reducible rfl)
                  simp only [opt12, Act.put, List.setIfInBounds_toArray, List.set_cons_zero, List.set_cons_succ]
                  refine wpAnyH_take (i := 13) (oi := opt13) (v := ?_) rfl (by kernel_rfl) (by kernel_rfl) (by kernel_rfl) (fun _ _ _ h => h) (Or.inl ⟨by rfl, ?_⟩) (by assumption) ?_
                  rotate_left
                  · intro w' hSw
                    obtain ⟨⟨-, y0, y1, y2, y3, y4, y5, y6⟩, x0, x1, x2, x3, x4, x5, x6⟩ := hSw
                    unfold opt13
                    first
                    | (go_simp; done)
                    | (go_simp; with_reducible rfl)
                  simp only [opt13, Act.put, List.setIfInBounds_toArray, List.set_cons_zero, List.set_cons_succ]
                  refine wpAnyH_ready (rs := [14]) (by kernel_rfl) (by simp) ?_
                  refine AllReadyH.cons (o := opt14) rfl (fun KK hKK => ?_) AllReadyH.nil
                  unfold opt14
                  go_simp
                  refine Calls.mono (sameMail_yes _ _ ⟨xk, xu, xq, xt, xg, xs, xi⟩ _ ⟨ya, yn, yc, ya2, yn2, yc2, rfl, F6.out.2.2.2.2.1.later hb0⟩ ⟨xa, xn, xc, xa2, xn2, xc2, rfl, F6.out.2.2.2.2.2.later hb0⟩) ?_
                  rintro e v1 ⟨rfl, hc1⟩
                  have hb1 : Below V.heap.size V v1 := chain hb0 hc1
                  clear hc1
                  refine hKK.out _ _ (KP.out _ hb1) (fun hHeld1 => ?_)
                  clear hKK KK
                  refine wpAnyH_take (i := 15) (oi := opt15) (v := ?_) rfl (by kernel_rfl) (by kernel_rfl) (by kernel_rfl) (fun _ _ _ h => h) (Or.inl ⟨by rfl, ?_⟩) (by assumption) ?_
                  rotate_left
                  · intro w' hSw
                    clear hSw
                    unfold opt15
                    first
                    | (go_simp; done)
                    | (go_simp; with_reducible rfl)
                  simp only [opt15, Act.put, List.setIfInBounds_toArray, List.set_cons_zero, List.set_cons_succ]
                  refine wpAnyH_take (i := 16) (oi := opt16) (v := ?_) rfl (by kernel_rfl) (by kernel_rfl) (by kernel_rfl) (fun _ _ _ h => h) (Or.inl ⟨by rfl, ?_⟩) (by assumption) ?_
                  rotate_left
                  · intro w' hSw
                    clear hSw
                    unfold opt16
                    first
                    | (go_simp; done)
                    | (go_simp; with_reducible rfl)
                  simp only [opt16, Act.put, List.setIfInBounds_toArray, List.set_cons_zero, List.set_cons_succ]
                  refine wpAnyH_done (by kernel_rfl) ?_ _
                  refine NoPanic.normal ?_
                  have I7 : Hid (RdAt v1 p g5 (Fr.nextR rk) ∧ p ≤ g5 ∧ Below p w2 v1) := ⟨F6.out.1.later hb1, F6.out.2.1, F6.out.2.2.1.trans (hb1.mono (Nat.le_of_lt F6.out.1.lt))⟩
                  clear c0 c1 c2' c3 c4 c5 c6 MM KP F6 CW hb1 hb0 hHeld hHeld1
                  go_wp2
                  go_roundw
                  case rel => exact ⟨kk + 1, jj + 1, g5, f, Fr.nextR rk, by go_num, by omega, by go_num, by omega, J2.out, I7.out⟩
                  case measure => simp [intOf]; omega
                · obtain ⟨d1, d2⟩ := Fr.drain_stop (f + 1) rk hh
                  have NX : Hid (Calls Try.prog 23 #[.pointer (some ⟨p, 0, none⟩)] wr fun e w' => e = .returned (.tuple #[.string ⟨#[]⟩, .bool false]) ∧ Below wr.heap.size wr w') := next_no p gg rk wr I.out.1 J.out.2.2.2.2.2 hh
                  have EJ : Hid (jj = j' ∧ rk = ⟨h', false⟩) := by
                    have t1 := J.out.2.1
                    have t2 := J.out.2.2.1
                    rw [d1, List.append_nil] at t1
                    rw [d2] at t2
                    exact ⟨take_same (tls ks) (by rw [tls_len, KS.out.2.2.2.1]; exact hjj) (by rw [tls_len]; exact QQ.out.1.1) t1, t2⟩
                  clear d1 d2 hh J
                  go_wp2_with fail
                  refine Calls.mono NX.out ?_
                  rintro e w5 ⟨rfl, hb5⟩
                  have I5 : Hid (RdAt w5 p gg rk ∧ p ≤ gg ∧ Below p w2 w5) := by
                    obtain ⟨i1, i2, i3⟩ := I.out
                    exact ⟨i1.later hb5, i2, i3.trans (hb5.mono (Nat.le_of_lt i1.lt))⟩
                  clear hb5 I NX
                  go_wp2
                  go_roundw
                  case rel => exact ⟨k + 1, jj, gg, sr, h', by go_num, rfl, rfl, by rw [ZS.out]; omega, by omega, hjj, by have := HM.out; have := ZS.out; show _ ∨ _; omega, by rw [EJ.out.1]; exact QQ.out.1, by rw [← EJ.out.2]; exact I5.out⟩
                  case measure => simp [intOf]; omega
              · have gk : ¬ (kk : Int) < (N : Int) := by omega
                obtain rfl : f = 0 := by have := J.out.1; omega
                have EJ : Hid (jj = j' ∧ rk = ⟨h', false⟩) := by
                  have t1 := J.out.2.1
                  have t2 := J.out.2.2.1
                  rw [show Fr.drain 0 rk = [] from rfl, List.append_nil] at t1
                  exact ⟨take_same (tls ks) (by rw [tls_len, KS.out.2.2.2.1]; exact hjj) (by rw [tls_len]; exact QQ.out.1.1) t1, t2⟩
                clear J
                go_wp2
                go_roundw
                case rel => exact ⟨k + 1, jj, gg, sr, h', by go_num, rfl, rfl, by rw [ZS.out]; omega, by omega, hjj, by have := HM.out; have := ZS.out; show _ ∨ _; omega, by rw [EJ.out.1]; exact QQ.out.1, by rw [← EJ.out.2]; exact I.out⟩
                case measure => simp [intOf]; omega
      · have gs : ¬ (0 : Int) < (sb.size : Int) := by omega
        have E0 : sb.data.toList = [] := List.length_eq_zero_iff.1 (by rw [show sb.data.toList.length = sb.size by simp]; omega)
        rw [E0] at C
        obtain ⟨E1, E2⟩ := chk_end KS.out.2.2.1 C.out
        rw [KS.out.2.2.2.1] at E1
        have I5 : Hid (RdAt wr p g ⟨[], false⟩ ∧ Below w.heap.size w wr) := ⟨by rw [← E2]; exact I.out.1, chain B3.out.1 (I3.out.2.2.2.1 ▸ I.out.2.2)⟩
        subst E1
        clear I C K E0 E2
        go_wp2_with fail
        refine Calls.mono (waits_any p g ⟨[], false⟩ wr I5.out.1) ?_
        rintro e w4 ⟨rfl, hw4⟩
        have hw4 := hw4.symm
        subst hw4
        go_wp2
        go_ret
        exact ⟨rfl, I5.out.2⟩
end Go.Proofs.Ytbaajpefefedbaa
