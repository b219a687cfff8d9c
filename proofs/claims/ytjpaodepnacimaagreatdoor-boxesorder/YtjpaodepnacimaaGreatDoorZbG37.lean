/- Parts: BpZ, FDo. -/
import Derived.Test.YtjpaodepnacimaaGreatDoorZbG36
import Derived.WalkKit
import Derived.ProofKit
import Derived.OpenShut
import Derived.ShutString
import Derived.ChangeOld
import Derived.ChangeArms
import Derived.SizedLaws
import Derived.Deep.Slices
import Derived.Deep.Fields
namespace Go.Proofs.YtjpaodepnacimaaGreatDoor
open Go.RowKit Go.Proofs.Fd Go.Proofs.Dk Go.Proofs.Lg Go.Proofs.Bx
set_option maxRecDepth 20000
def opbo0 : Oper := { dst := some 70, op := Go.Op.move (Go.Operand.tmp 12), type := 4, pos := "theorems.go:148", after := #[], guard := none }
def opbo1 : Oper := { dst := some 71, op := Go.Op.move (Go.Operand.tmp 70), type := 4, pos := "theorems.go:148", after := #[{ on := 0, ground := Go.Ground.data }], guard := none }
def opbo2 : Oper := { dst := some 72, op := Go.Op.fieldAddr 58 (Go.Operand.tmp 14) 0, type := 0, pos := "theorems.go:148", after := #[{ on := 1, ground := Go.Ground.guard }], guard := some (1, false) }
def opbo3 : Oper := { dst := some 73, op := Go.Op.load 9 (Go.Operand.tmp 72), type := 9, pos := "theorems.go:148", after := #[{ on := 2, ground := Go.Ground.data }, { on := 1, ground := Go.Ground.guard }], guard := some (1, false) }
def opbo4 : Oper := { dst := some 74, op := Go.Op.fieldAddr 56 (Go.Operand.tmp 10) 1, type := 0, pos := "theorems.go:148", after := #[{ on := 1, ground := Go.Ground.guard }], guard := some (1, false) }
def opbo5 : Oper := { dst := some 75, op := Go.Op.load 3 (Go.Operand.tmp 74), type := 3, pos := "theorems.go:148", after := #[{ on := 4, ground := Go.Ground.data }, { on := 1, ground := Go.Ground.guard }], guard := some (1, false) }
def opbo6 : Oper := { dst := some 76, op := Go.Op.call { callee := Go.Callee.value (Go.Operand.func 16), args := #[Go.Operand.tmp 75], argTypes := #[3] }, type := 9, pos := "theorems.go:148", after := #[{ on := 5, ground := Go.Ground.data }, { on := 1, ground := Go.Ground.chain }, { on := 1, ground := Go.Ground.guard }], guard := some (1, false) }
def opbo7 : Oper := { dst := some 77, op := Go.Op.binOp Go.BinOp.eql 9 (Go.Operand.tmp 73) (Go.Operand.tmp 76) 9, type := 4, pos := "theorems.go:148", after := #[{ on := 3, ground := Go.Ground.data }, { on := 6, ground := Go.Ground.data }, { on := 1, ground := Go.Ground.guard }], guard := some (1, false) }
def opbo8 : Oper := { dst := some 78, op := Go.Op.pick (Go.Operand.tmp 71) (Go.Operand.const (Go.Value.bool true)) (Go.Operand.tmp 77), type := 4, pos := "theorems.go:148", after := #[{ on := 1, ground := Go.Ground.data }, { on := 7, ground := Go.Ground.data }], guard := none }
def opbo9 : Oper := { dst := some 12, op := Go.Op.assign (Go.Operand.tmp 78), type := 4, pos := "theorems.go:148", after := #[{ on := 8, ground := Go.Ground.data }, { on := 6, ground := Go.Ground.chain }, { on := 0, ground := Go.Ground.phase }, { on := 1, ground := Go.Ground.phase }, { on := 2, ground := Go.Ground.phase }, { on := 3, ground := Go.Ground.phase }, { on := 4, ground := Go.Ground.phase }, { on := 5, ground := Go.Ground.phase }, { on := 6, ground := Go.Ground.phase }, { on := 7, ground := Go.Ground.phase }, { on := 8, ground := Go.Ground.phase }], guard := none }
theorem lset_cells {v0 v1 v2 : Value} {W : World} {B : Nat} (h : Blk W B [v0, v1, v2]) : W.cell? ⟨B, 0, none⟩ = some v0 ∧ W.cell? ⟨B, 1, none⟩ = some v1 ∧ W.cell? ⟨B, 2, none⟩ = some v2 := ⟨h.c 0 _ rfl, h.c 1 _ rfl, h.c 2 _ rfl⟩
theorem Oz.cells {w : World} {B p q b quota k : Nat} {bx ls : Bxs} {v0 v1 v2 : Value} {W : World} (h : Oz w B p q b quota k bx ls v0 v1 v2 W) : W.cell? ⟨B, 0, none⟩ = some v0 ∧ W.cell? ⟨B, 1, none⟩ = some v1 ∧ W.cell? ⟨B, 2, none⟩ = some v2 := by
  obtain ⟨s, x, F, v, vs, py, us, r, gm, bk, -⟩ := h
  exact lset_cells bk
theorem Oz.at_ {w : World} {B p q b quota k : Nat} {bx ls : Bxs} {v0 v1 v2 : Value} {W : World} (h : Oz w B p q b quota k bx ls v0 v1 v2 W) {who : Nat} (hw : who < 3) {va : Option Addr} {n vc : Nat} (hs : ([v0, v1, v2] : List Value)[who]? = some (.slice va n vc)) : SlAt W va (ls who) := by
  obtain ⟨_, _, _, _, _, _, _, _, _, S⟩ := oz_list w B p q b quota k ls v0 v1 v2 h
  obtain ⟨a, c, e, sl⟩ := S who hw
  have e2 := Option.some.inj (e.symm.trans hs)
  injection e2 with e3 e4 e5
  rw [← e3]
  exact sl
theorem Oz.sel {w : World} {B p q b quota k : Nat} {bx ls : Bxs} {v0 v1 v2 : Value} {W : World} (h : Oz w B p q b quota k bx ls v0 v1 v2 W) {who : Nat} {u : Value} (hs : ([v0, v1, v2] : List Value)[who]? = some u) : W.cell? ⟨B, who, none⟩ = some u := by
  obtain ⟨s, x, F, v, vs, py, us, r, gm, bk, -⟩ := h
  exact bk.c who _ hs
theorem Oz.len {w : World} {B p q b quota k : Nat} {bx ls : Bxs} {v0 v1 v2 : Value} {W : World} (h : Oz w B p q b quota k bx ls v0 v1 v2 W) {u : Nat} (hu : u < 64) : (bx u).length ≤ k := by
  obtain ⟨s, x, F, v, vs, py, us, r, gm, -⟩ := h
  exact Nat.le_trans (manyX_at 64 bx u hu) gm.m
theorem oz_tail {w : World} {B p q b quota k : Nat} {ls : Bxs} {u0 u1 u2 : Value} {W : World} (h : Oz w B p q b quota k ls ls u0 u1 u2 W) (hk : k ≤ 256) : Calls Tryz.prog 20 #[.pointer (some ⟨b, 0, none⟩)] W fun e w1 => ∃ y0 y1 y2, e = .returned (.agg #[y0, y1, y2]) ∧ (w1.cell? ⟨B, 0, none⟩ = some u0 ∧ w1.cell? ⟨B, 1, none⟩ = some u1 ∧ w1.cell? ⟨B, 2, none⟩ = some u2) ∧ Hid (Calls Tryz.prog 19 #[.agg #[y0, y1, y2], .agg #[u0, u1, u2]] w1 fun e w2 => e = .returned (.bool true) ∧ (w2.cell? ⟨B, 0, none⟩ = some u0 ∧ w2.cell? ⟨B, 1, none⟩ = some u1 ∧ w2.cell? ⟨B, 2, none⟩ = some u2) ∧ Hid (Oz w B p q b quota k ls ls u0 u1 u2 w2)) := by
  refine (oz_all w B p q b quota k ls u0 u1 u2 h hk).mono ?_
  intro e w1 ha
  have hb : Below W.heap.size W w1 := by
    obtain ⟨_, _, _, _, _, _, _, hb⟩ := ha
    exact hb
  have h1 := h.later hb
  obtain ⟨y0, y1, y2, he, hc⟩ := oz_same w B p q b quota k ls u0 u1 u2 (W := W) (Below.refl _ _) h1 ha
  exact ⟨y0, y1, y2, he, h1.cells, hc.mono fun _ w2 ⟨e2, hb2⟩ => ⟨e2, (h1.later hb2).cells, h1.later hb2⟩⟩
set_option maxHeartbeats 16000000 in
theorem BoxesOrder_walk (i0 : Int) (a : Option Addr) (len cap : Nat) (L : List Doo) (hn : L.length = len) (w : World) (hk : Hid (Kh w)) (h : Hid (DoAt w a L)) :
    Calls Tryz.prog 4 #[.int .i64 i0, .slice a len cap] w fun e w' => e = .returned (.bool true) ∧ Below w.heap.size w w' := by
  obtain ⟨a0, ha0, -, AM1⟩ := xamong_is i0 10 (by decide) (by decide)
  have AMQ : Hid (∀ W, Calls Tryz.prog 14 #[.int .i64 i0, .int .i64 10] W fun e w' => e = .returned (.int .i64 (a0 : Int)) ∧ w' = W) := AM1
  have NW : Hid _ := newL w w 200 (by decide) (by decide) (Below.refl _ _)
  obtain ⟨quota, hquota⟩ : ∃ z, 1 + a0 = z := ⟨_, rfl⟩
  have y0 : (1 : Int) + (a0 : Int) = (quota : Int) := by omega
  have hq1 : 1 ≤ quota := by omega
  have hq2 : quota ≤ 10 := by omega
  have OP : Hid (∀ p F W, Dl w W p F (up 200 zs []) → Calls Tryz.prog 15 #[.pointer (some ⟨p, 0, none⟩), .int .i64 (quota : Int)] W fun e w' => ∃ q b, e = .returned (.tuple #[.pointer (some ⟨b, 0, none⟩), .int .i64 0]) ∧ Qx w p q b quota 200 1 (fun _ => []) w') := fun p F W d => qx_new w W p F 200 quota (by decide) (by decide) hq1 (by omega) hk d
  have NH : Hid (∀ p q b W, Qx w p q b quota 200 1 (fun _ => []) W → Oz w W.heap.size p q b quota 1 (fun _ => []) (fun _ => []) (.slice none 0 0) (.slice none 0 0) (.slice none 0 0) (W.alloc (.cells #[.slice none 0 0, .slice none 0 0, .slice none 0 0] 54))) := fun p q b W hq => by
    obtain ⟨s, x, F, v, vs, py, us, hh, htk, hg, hl⟩ := hq
    have nil : Ok3 W.heap.size (W.alloc (.cells #[.slice none 0 0, .slice none 0 0, .slice none 0 0] 54)) (.slice none 0 0) [] := ⟨none, 0, rfl, Sli.nil _, fun x e => by cases e⟩
    have ap : Apv (FB F q v b vs) (.slice none 0 0) := fun a n c z e ez h0 => by injection e with e1 e2 e3; omega
    exact ⟨s, x, F, v, vs, py.later (nb _ _), us, ⟨hh, by omega, hl⟩, Gm.nil.mono (by decide), Blk.new W [.slice none 0 0, .slice none 0 0, .slice none 0 0] 54 (by simp), ⟨nil, nil, nil⟩, ⟨fun c => Nat.lt_irrefl _ (py.lt c).1, py.below.size⟩, ap, ap, ap⟩
  have HK : Hid (∀ W, Below w.heap.size w W → Kh W) := fun W hb => hk.out.later hb
  have HN : Hid (L.length = len) := hn
  clear AM1
  go_enter Tryz.func4, Tryz.ntmps4
  go_wp2_with fail
  refine Calls.mono NW.out ?_
  rintro e w1 ⟨p, F, rfl, I1, -, -⟩
  have J1 : Hid (Dl w w1 p F (up 200 zs [])) := I1
  clear NW I1
  go_wp2_with fail
  refine Calls.mono (lxworks_any w1 (HK.out _ J1.out.below)) ?_
  rintro e w2 ⟨rfl, hb⟩
  have J2 : Hid _ := J1.out.later hb
  clear J1 hb HK
  go_wp2_with fail
  refine Calls.mono (AMQ.out _) ?_
  rintro e w4 ⟨rfl, hw4⟩
  subst hw4
  clear AMQ
  go_wp2_with fail
  refine Calls.mono (OP.out p F w4 J2.out) ?_
  rintro e w3 ⟨q, b, rfl, s3⟩
  have J3 : Hid _ := NH.out p q b w3 s3
  clear OP NH J2 s3 y0 hquota ha0
  go_upto_region 9 with fail
  obtain ⟨B, hB⟩ : ∃ B, w3.heap.size = B := ⟨_, rfl⟩
  obtain ⟨W4, hW4⟩ : ∃ W, w3.alloc (.cells #[.slice none 0 0, .slice none 0 0, .slice none 0 0] 54) = W := ⟨_, rfl⟩
  rw [hB, hW4] at J3
  rw [hB, hW4]
  clear hB hW4
  have J4 : Hid (∃ ls v0 v1 v2, Oz w B p q b quota 1 ls ls v0 v1 v2 W4) := ⟨_, _, _, _, J3.out⟩
  clear J3
  go_wp2_with fail
  go_loopw [9] (fun i wr => ∃ k : Nat, k ≤ len ∧ k ≤ 60 ∧ i = .int .i64 (k : Int) ∧ Hid (∃ ls v0 v1 v2, Oz w B p q b quota (k + 1) ls ls v0 v1 v2 wr)) (fun i _ => 60 - (intOf i).toNat)
  case atStart => exact ⟨0, Nat.zero_le _, Nat.zero_le _, rfl, J4.out⟩
  case round =>
    obtain ⟨k, hkl, hk60, rfl, J⟩ := hrel
    obtain ⟨wo, rfl⟩ : ∃ W, W = wr := ⟨_, rfl⟩
    clear J4
    have BW : Hid (Below w.heap.size w wo) := by
      obtain ⟨ls, v0, v1, v2, oz⟩ := J.out
      exact Oz.below oz
    by_cases hlt : k < len
    · by_cases h60 : k < 60
      · have g1 : (k : Int) < (len : Int) := by omega
        have g2 : (k : Int) < 60 := by omega
        have hkL : k < L.length := by rw [HN.out]; exact hlt
        obtain ⟨bd, od, rfl, e0, e1, e2, e3⟩ := (h.out.later BW.out) k hkL
        obtain ⟨dd, hdd⟩ : ∃ d, L[k] = d := ⟨_, rfl⟩
        rw [hdd] at e0 e1 e2 e3
        obtain ⟨du, di, da, dt⟩ := dd
        simp only at e0 e1 e2 e3
        obtain ⟨who, hw, -, AM0⟩ := xamong_is du 3 (by decide) (by decide)
        obtain ⟨m, hm, -, AI0⟩ := xamong_is di 20 (by decide) (by decide)
        have AM : Hid (∀ w, Calls Tryz.prog 14 #[.int .i64 du, .int .i64 3] w fun e w' => e = .returned (.int .i64 (who : Int)) ∧ w' = w) := AM0
        have ID : Hid (∀ w, Calls Tryz.prog 16 #[.int .i64 di] w fun e w' => e = .returned (.string (st (xid m))) ∧ Below w.heap.size w w') := fun W => lxid_any m hm di AI0 W
        clear hdd AM0 AI0 hm
        obtain ⟨ls, v0, v1, v2, oz⟩ := J.out
        clear J
        obtain ⟨x0, x1, x2, c0, c1, c2, rfl, rfl, rfl, SEL⟩ := oz_list w B p q b quota (k + 1) ls v0 v1 v2 oz
        obtain ⟨va, vc, hsel0, sat0⟩ := SEL who hw
        have OZ0 : Hid _ := oz
        obtain ⟨N0, hN0⟩ : ∃ N, (ls 0).length = N := ⟨_, rfl⟩
        obtain ⟨N1, hN1⟩ : ∃ N, (ls 1).length = N := ⟨_, rfl⟩
        obtain ⟨N2, hN2⟩ : ∃ N, (ls 2).length = N := ⟨_, rfl⟩
        rw [hN0, hN1, hN2] at OZ0 hsel0
        obtain ⟨n, hnl⟩ : ∃ n, (ls who).length = n := ⟨_, rfl⟩
        rw [hnl] at hsel0
        have hn1000 : n ≤ 1000 := by
          have := Oz.len oz (u := who) (by omega)
          omega
        have HL : Hid ((ls who).length = n) := hnl
        have hsel : Hid _ := hsel0
        clear SEL oz hN0 hN1 hN2 hnl hsel0
        obtain ⟨S0, hS0⟩ : ∃ S, wo.heap.size = S := ⟨_, rfl⟩
        obtain ⟨V, hV⟩ : ∃ V, wo.alloc (.cells #[.int .i64 du, .int .i64 di, .bool da, .string dt] 56) = V := ⟨_, rfl⟩
        have NV : Hid (Below wo.heap.size wo V) := by rw [← hV]; exact nb _ _
        have XC : Hid (∀ W', Below V.heap.size V W' → W'.cell? ⟨S0, 0, none⟩ = some (.int .i64 du) ∧ W'.cell? ⟨S0, 1, none⟩ = some (.int .i64 di) ∧ W'.cell? ⟨S0, 2, none⟩ = some (.bool da) ∧ W'.cell? ⟨S0, 3, none⟩ = some (.string dt)) := fun W' hb => by
          have bk := Blk.new wo [.int .i64 du, .int .i64 di, .bool da, .string dt] 56 (by simp)
          have hV' : wo.alloc (.cells ([.int .i64 du, .int .i64 di, .bool da, .string dt] : List Value).toArray 56) = V := hV
          rw [hV', hS0] at bk
          have bk := bk.later hb
          exact ⟨bk.c 0 _ rfl, bk.c 1 _ rfl, bk.c 2 _ rfl, bk.c 3 _ rfl⟩
        have SA : Hid (∀ W', Below V.heap.size V W' → SlAt W' va (ls who)) := fun W' hb => sat0.later (chain NV.out hb)
        have OZV : Hid (∀ W', Below V.heap.size V W' → Below wo.heap.size wo W') := fun W' hb => chain NV.out hb
        have kb : V.cell? ⟨B, who, none⟩ = some (.slice va n vc) := by
          have := Oz.later OZ0.out NV.out
          obtain ⟨s, x, F, v, vs, py, us, r, gm, bk, -⟩ := this
          exact bk.c who _ hsel.out
        obtain ⟨f0, f1, f2, f3⟩ := XC.out V (Below.refl _ _)
        have HS : Hid (wo.heap.size = S0) := hS0
        clear sat0 NV
        go_upto_region 13 with fail
        skip
        clear hV hS0 e0 e1 e2 e3
        go_wp2_with fail
        refine Calls.mono (AM.out _) ?_
        rintro e w5 ⟨rfl, hw5⟩
        subst hw5
        have g0 : (0 : Int) ≤ (who : Int) := by omega
        have g3 : (who : Int) < 3 := by omega
        go_wp2_with fail
        clear f0 f1 f2 f3 kb
        go_loopw [12, 66] (fun th i wr => ∃ (j : Nat) (tb : Bool), j ≤ n ∧ i = .int .i64 (j : Int) ∧ th = .bool tb ∧ Hid (tb = decide (xid m ∈ ids ((ls who).take j))) ∧ Hid (Below w5.heap.size w5 wr)) (fun _ i _ => n - (intOf i).toNat)
        case atStart => exact ⟨0, false, Nat.zero_le _, rfl, rfl, (by show false = decide (xid m ∈ ids ((ls who).take 0)); rw [List.take_zero]; rfl), Below.refl _ _⟩
        case round =>
          obtain ⟨j, tb, hj, rfl, rfl, HT, HB⟩ := hrel
          by_cases hjn : j < n
          · have g4 : (j : Int) < (n : Int) := by omega
            have hjl : j < (ls who).length := by rw [HL.out]; exact hjn
            obtain ⟨gb, go, rfl, d0, d1⟩ := SA.out wr HB.out j hjl
            have ET : Hid ((ls who).take (j + 1) = (ls who).take j ++ [(ls who)[j]]) := List.take_succ_eq_append_getElem hjl
            obtain ⟨⟨ei, et⟩, hel⟩ : ∃ e, (ls who)[j] = e := ⟨_, rfl⟩
            rw [hel] at d0 d1 ET
            clear hel
            have EI : Hid (decide (xid m ∈ ids ((ls who).take (j + 1))) = (decide (xid m ∈ ids ((ls who).take j)) || decide (ei = xid m))) := by
              show _ = _
              rw [ET.out, ids_app, ← Bool.decide_or]
              refine decide_eq_decide.2 ?_
              rw [List.mem_append]
              show _ ∨ xid m ∈ [ei] ↔ _
              rw [List.mem_singleton]
              exact ⟨fun h => h.imp id Eq.symm, fun h => h.imp id Eq.symm⟩
            obtain ⟨S1, hS1⟩ : ∃ S, wr.heap.size = S := ⟨_, rfl⟩
            obtain ⟨U, hU⟩ : ∃ U, wr.alloc (.cells #[.string (st ei), .string (st et)] 58) = U := ⟨_, rfl⟩
            have BU : Hid (Below w5.heap.size w5 U.drew) := by rw [← hU]; exact (HB.out.alloc HB.out.size _).drew
            have s0 : U.drew.cell? ⟨S1, 0, none⟩ = some (.string (st ei)) := by rw [← hU, ← hS1]; show (wr.alloc _).cell? _ = _; rw [World.cell?_alloc_new]; rfl
            obtain ⟨-, f1, -, -⟩ := XC.out U.drew BU.out
            unfold sv at d0 d1
            cases tb with
            | true =>
              go_upto_region 18 with fail
              skip
              clear hU hS1 d0 d1
              refine wp_region_noPanic ?_
              refine wp_region_held_drew (S := fun _ => True) (by kernel_rfl) (trivial) (fun hHeld => ?_)
              refine wpAnyH_take (i := 0) (oi := opbo0) (v := ?_) rfl (by kernel_rfl) (by kernel_rfl) (by kernel_rfl) (fun _ _ _ h => h) (Or.inl ⟨by rfl, ?_⟩) (by assumption) ?_
              rotate_left
              · intro w' hSw
                clear hSw
                unfold opbo0
                first
                | (go_simp; done)
                | (go_simp; with_reducible rfl)
              simp only [opbo0, Act.put, List.setIfInBounds_toArray, List.set_cons_zero, List.set_cons_succ]
              refine wpAnyH_take (i := 1) (oi := opbo1) (v := ?_) rfl (by kernel_rfl) (by kernel_rfl) (by kernel_rfl) (fun _ _ _ h => h) (Or.inl ⟨by rfl, ?_⟩) (by assumption) ?_
              rotate_left
              · intro w' hSw
                clear hSw
                unfold opbo1
                first
                | (go_simp; done)
                | (go_simp; with_reducible rfl)
              simp only [opbo1, Act.put, List.setIfInBounds_toArray, List.set_cons_zero, List.set_cons_succ]
              refine wpAnyH_take (i := 2) (oi := opbo2) (v := undef) rfl (by kernel_rfl) (by kernel_rfl) (by kernel_rfl) (fun _ _ _ h => h) (Or.inr ⟨by rfl, rfl⟩) (by assumption) ?_
              simp only [opbo2, Act.put, List.setIfInBounds_toArray, List.set_cons_zero, List.set_cons_succ]
              refine wpAnyH_take (i := 3) (oi := opbo3) (v := undef) rfl (by kernel_rfl) (by kernel_rfl) (by kernel_rfl) (fun _ _ _ h => h) (Or.inr ⟨by rfl, rfl⟩) (by assumption) ?_
              simp only [opbo3, Act.put, List.setIfInBounds_toArray, List.set_cons_zero, List.set_cons_succ]
              refine wpAnyH_take (i := 4) (oi := opbo4) (v := undef) rfl (by kernel_rfl) (by kernel_rfl) (by kernel_rfl) (fun _ _ _ h => h) (Or.inr ⟨by rfl, rfl⟩) (by assumption) ?_
              simp only [opbo4, Act.put, List.setIfInBounds_toArray, List.set_cons_zero, List.set_cons_succ]
              refine wpAnyH_take (i := 5) (oi := opbo5) (v := undef) rfl (by kernel_rfl) (by kernel_rfl) (by kernel_rfl) (fun _ _ _ h => h) (Or.inr ⟨by rfl, rfl⟩) (by assumption) ?_
              simp only [opbo5, Act.put, List.setIfInBounds_toArray, List.set_cons_zero, List.set_cons_succ]
              refine wpAnyH_take (i := 6) (oi := opbo6) (v := undef) rfl (by kernel_rfl) (by kernel_rfl) (by kernel_rfl) (fun _ _ _ h => h) (Or.inr ⟨by rfl, rfl⟩) (by assumption) ?_
              simp only [opbo6, Act.put, List.setIfInBounds_toArray, List.set_cons_zero, List.set_cons_succ]
              refine wpAnyH_take (i := 7) (oi := opbo7) (v := undef) rfl (by kernel_rfl) (by kernel_rfl) (by kernel_rfl) (fun _ _ _ h => h) (Or.inr ⟨by rfl, rfl⟩) (by assumption) ?_
              simp only [opbo7, Act.put, List.setIfInBounds_toArray, List.set_cons_zero, List.set_cons_succ]
              refine wpAnyH_take (i := 8) (oi := opbo8) (v := ?_) rfl (by kernel_rfl) (by kernel_rfl) (by kernel_rfl) (fun _ _ _ h => h) (Or.inl ⟨by rfl, ?_⟩) (by assumption) ?_
              rotate_left
              · intro w' hSw
                clear hSw
                unfold opbo8
                first
                | (go_simp; done)
                | (go_simp; with_reducible rfl)
              simp only [opbo8, Act.put, List.setIfInBounds_toArray, List.set_cons_zero, List.set_cons_succ]
              refine wpAnyH_take (i := 9) (oi := opbo9) (v := ?_) rfl (by kernel_rfl) (by kernel_rfl) (by kernel_rfl) (fun _ _ _ h => h) (Or.inl ⟨by rfl, ?_⟩) (by assumption) ?_
              rotate_left
              · intro w' hSw
                clear hSw
                unfold opbo9
                first
                | (go_simp; done)
                | (go_simp; with_reducible rfl)
              simp only [opbo9, Act.put, List.setIfInBounds_toArray, List.set_cons_zero, List.set_cons_succ]
              refine wpAnyH_done (by kernel_rfl) ?_ _
              refine NoPanic.normal ?_
              have T2 : Hid (true = decide (xid m ∈ ids ((ls who).take (j + 1)))) := by show _ = _; rw [EI.out, ← HT.out]; rfl
              clear EI ET HT s0 f1
              go_wp2
              go_roundw
              case rel => exact ⟨j + 1, true, by omega, by go_num, rfl, T2.out, BU.out⟩
              case measure => simp [intOf]; omega
            | false =>
              by_cases he : ei = xid m
              · subst he
                have QQ : ((st (xid m)).toList == (st (xid m)).toList) = true := by simp
                have T2 : Hid (true = decide (xid m ∈ ids ((ls who).take (j + 1)))) := by show _ = _; rw [EI.out]; simp
                have ID2 : Hid _ := ID.out
                obtain ⟨I, hI⟩ : ∃ I, st (xid m) = I := ⟨_, rfl⟩
                rw [hI] at ID2 d0 s0 hU QQ
                clear EI ET HT hI
                go_upto_region 18 with fail
                skip
                clear hU hS1 d0 d1
                go_region_held3 (fun w' => w'.cell? ⟨S1, 0, none⟩ = some (.string I) ∧ w'.cell? ⟨S0, 1, none⟩ = some (.int .i64 di) ∧ Below w5.heap.size w5 w') (first | exact ⟨s0, f1, BU.out⟩ | assumption | exact ⟨cell_later (by assumption) s0, cell_later (by assumption) f1, chain BU.out (by assumption)⟩) (first | (go_at_call 16; refine Calls.mono (ID2.out _) ?_; rintro e w7 ⟨rfl, hb7⟩))
                have F7 : Hid _ := chain BU.out hb7
                clear ID2 BU s0 f1 hb7
                go_wp2
                go_roundw
                case rel => exact ⟨j + 1, true, by omega, by go_num, rfl, T2.out, F7.out⟩
                case measure => simp [intOf]; omega
              · have QQ : ((st ei).toList == (st (xid m)).toList) = false := st_ne (a := st ei) (b := st (xid m)) he
                have T2 : Hid (false = decide (xid m ∈ ids ((ls who).take (j + 1)))) := by show _ = _; rw [EI.out, ← HT.out, decide_eq_false he]; rfl
                have ID2 : Hid _ := ID.out
                obtain ⟨I, hI⟩ : ∃ I, st (xid m) = I := ⟨_, rfl⟩
                obtain ⟨J0, hJ0⟩ : ∃ J, st ei = J := ⟨_, rfl⟩
                rw [hI] at ID2 QQ
                rw [hJ0] at d0 s0 hU QQ
                clear EI ET HT hI hJ0 he
                go_upto_region 18 with fail
                skip
                clear hU hS1 d0 d1
                go_region_held3 (fun w' => w'.cell? ⟨S1, 0, none⟩ = some (.string J0) ∧ w'.cell? ⟨S0, 1, none⟩ = some (.int .i64 di) ∧ Below w5.heap.size w5 w') (first | exact ⟨s0, f1, BU.out⟩ | assumption | exact ⟨cell_later (by assumption) s0, cell_later (by assumption) f1, chain BU.out (by assumption)⟩) (first | (go_at_call 16; refine Calls.mono (ID2.out _) ?_; rintro e w7 ⟨rfl, hb7⟩))
                have F7 : Hid _ := chain BU.out hb7
                clear ID2 BU s0 f1 hb7
                go_wp2
                go_roundw
                case rel => exact ⟨j + 1, false, by omega, by go_num, rfl, T2.out, F7.out⟩
                case measure => simp [intOf]; omega
          · obtain rfl : j = n := by omega
            have g4 : ¬ (j : Int) < (j : Int) := by omega
            have HT2 : Hid (tb = decide (xid m ∈ ids (ls who))) := by
              have := HT.out
              rw [List.take_of_length_le (by rw [HL.out]; exact Nat.le_refl _)] at this
              exact this
            obtain ⟨f0, f1, f2, f3⟩ := XC.out wr HB.out
            have ZZ : Hid _ := OZ0
            have BX : Hid (Below wo.heap.size wo wr) := OZV.out wr HB.out
            clear HT OZ0 OZV SA HB XC
            cases da with
            | true =>
              have D1 : Hid _ := oz_ack w B p q b quota (k + 1) ls _ _ _ wo wr who m du di dt hw hk ZZ.out BX.out (by omega) AM ID
              clear ZZ BX
              go_wp2_with fail
              refine Calls.mono D1.out ?_
              rintro e w6 ⟨z, rfl, bx6, oz6, bf6, hz⟩
              have t0 := bf6.cell f0 (by show ¬ S0 < wo.heap.size; rw [HS.out]; omega)
              have t1 := bf6.cell f1 (by show ¬ S0 < wo.heap.size; rw [HS.out]; omega)
              have t2 := bf6.cell f2 (by show ¬ S0 < wo.heap.size; rw [HS.out]; omega)
              have t3 := bf6.cell f3 (by show ¬ S0 < wo.heap.size; rw [HS.out]; omega)
              clear D1 f0 f1 f2 f3 bf6 HS
              rcases hz with ⟨rfl, rfl⟩ | rfl
              · have oz6 : Hid _ := oz6
                have sa6 : Hid _ := Oz.at_ oz6.out hw hsel.out
                have T1 : Hid _ := xthen_ack who m du di dt x0 x1 x2 N0 N1 N2 c0 c1 c2 va j vc (ls who) hw HL.out hn1000 hsel.out w6 sa6.out AM ID
                have OT : Hid (∀ y W1, Below w6.heap.size w6 W1 → W1.ownsRow w6.heap.size 58 2 y (thn true (xid m) dt.data.toList (ls who)).length (scx (thn true (xid m) dt.data.toList (ls who))) → _) := fun y W1 hb ho => oz_then w B p q b quota (k + 1 + 1) ls _ _ _ hw oz6.out hb ho
                obtain ⟨kb0, kb1, kb2⟩ := Oz.cells oz6.out
                clear oz6 sa6 AM ID HL
                go_wp2_with fail
                refine Calls.mono T1.out ?_
                rintro e w7 ⟨y, rfl, ho, hb7⟩
                obtain ⟨th3, on3, OZ7⟩ := OT.out y w7 hb7 ho
                obtain ⟨W8, hW8⟩ : ∃ W, w7.setCells B 0 (([.slice x0 N0 c0, .slice x1 N1 c1, .slice x2 N2 c2] : List Value).set who y) = W := ⟨_, rfl⟩
                rw [hW8] at OZ7
                have SW : Hid (w7.setCells B 0 (([.slice x0 N0 c0, .slice x1 N1 c1, .slice x2 N2 c2] : List Value).set who y).toArray.toList = W8) := by show _ = _; rw [← hW8]
                have TH3 : Hid (w7.there B 0 (([.slice x0 N0 c0, .slice x1 N1 c1, .slice x2 N2 c2] : List Value).set who y).toArray.size) := by
                  show World.there _ _ _ _
                  rw [List.size_toArray, List.length_set]
                  exact th3
                have I3 : Hid ((Tryz.prog.info? 54).map (·.size) = some (([.slice x0 N0 c0, .slice x1 N1 c1, .slice x2 N2 c2] : List Value).set who y).toArray.size) := by
                  show _ = _
                  rw [List.size_toArray, List.length_set]
                  exact size3
                obtain ⟨AG, hAG⟩ : ∃ A, (([.slice x0 N0 c0, .slice x1 N1 c1, .slice x2 N2 c2] : List Value).set who y).toArray = A := ⟨_, rfl⟩
                rw [hAG] at SW TH3 I3 on3 ⊢
                have ON3 : Hid _ := on3
                clear T1 OT ho hb7 th3 hW8 hAG kb0 kb1 kb2 hsel on3
                go_wp2_with (first | (refine wpList_store_mid rfl 54 (.tmp 8) (.tmp 117) rfl B 0 AG rfl rfl TH3.out I3.out ON3.out ?_; rw [SW.out]))
                clear SW TH3 I3 ON3
                obtain ⟨u0, u1, u2, oz8⟩ := OZ7.out
                obtain ⟨l8, hl8⟩ : ∃ l, upB ls who (thn true (xid m) dt.data.toList (ls who)) = l := ⟨_, rfl⟩
                rw [hl8] at oz8
                have A8 : Hid _ := oz_tail (Oz.later oz8 (Below.refl _ _).drew) (by omega)
                obtain ⟨k0, k1, k2⟩ := Oz.cells (Oz.later oz8 (Below.refl _ _).drew)
                clear OZ7 oz8 hl8
                go_wp2_with fail
                go_region_held3 (fun w' => w'.cell? ⟨B, 0, none⟩ = some u0 ∧ w'.cell? ⟨B, 1, none⟩ = some u1 ∧ w'.cell? ⟨B, 2, none⟩ = some u2) (first | exact ⟨k0, k1, k2⟩ | assumption) (first | (go_at_call 20; refine Calls.mono A8.out ?_; rintro e w9 ⟨z0, z1, z2, rfl, hc9, SM⟩) | (go_at_call 19; refine Calls.mono SM.out ?_; rintro e w10 ⟨rfl, hc10, F10⟩))
                clear A8 SM k0 k1 k2 hc9 hc10
                go_wp2
                go_roundw
                case rel => exact ⟨k + 1, by omega, by omega, by go_num, _, _, _, _, F10.out⟩
                case measure => simp [intOf]; omega
              · have FF : Hid (Below w.heap.size w w6) := Oz.below oz6
                clear oz6 AM ID
                go_wp2
                go_ret
                exact ⟨rfl, FF.out⟩
            | false =>
              have D1 : Hid _ := oz_put w B p q b quota (k + 1) ls _ _ _ wo wr who m du di dt hw hk ZZ.out BX.out (by omega) AM ID
              clear ZZ BX
              go_wp2_with fail
              refine Calls.mono D1.out ?_
              rintro e w6 ⟨z, rfl, bx6, oz6, bf6, r1, r2, r3, r4⟩
              have t0 := bf6.cell f0 (by show ¬ S0 < wo.heap.size; rw [HS.out]; omega)
              have t1 := bf6.cell f1 (by show ¬ S0 < wo.heap.size; rw [HS.out]; omega)
              have t2 := bf6.cell f2 (by show ¬ S0 < wo.heap.size; rw [HS.out]; omega)
              have t3 := bf6.cell f3 (by show ¬ S0 < wo.heap.size; rw [HS.out]; omega)
              clear D1 f0 f1 f2 f3 bf6 HS
              by_cases q1 : 222 < dt.size
              · obtain ⟨rfl, rfl⟩ := r1 q1
                have Z6 : Hid _ := oz6
                have gl : (222 : Int) < (dt.size : Int) := by omega
                clear oz6 r1 r2 r3 r4 AM ID HT2
                go_wp2
                go_roundw
                case rel => exact ⟨k + 1, by omega, by omega, by go_num, _, _, _, _, Z6.out⟩
                case measure => simp [intOf]; omega
              · have gl : ¬ (222 : Int) < (dt.size : Int) := by omega
                by_cases q2 : xid m ∈ ids (ls who)
                · obtain ⟨rfl, rfl⟩ := r2 q1 q2
                  obtain rfl : tb = true := by rw [HT2.out]; exact decide_eq_true q2
                  have Z6 : Hid _ := oz6
                  clear oz6 r1 r2 r3 r4 AM ID HT2 q2 q1
                  go_wp2
                  go_roundw
                  case rel => exact ⟨k + 1, by omega, by omega, by go_num, _, _, _, _, Z6.out⟩
                  case measure => simp [intOf]; omega
                · obtain rfl : tb = false := by rw [HT2.out]; exact decide_eq_false q2
                  have kb := Oz.sel oz6 hsel.out
                  by_cases q3 : quota ≤ (ls who).length
                  · obtain ⟨rfl, rfl⟩ := r3 q1 q2 q3
                    have Z6 : Hid _ := oz6
                    rw [HL.out] at q3
                    have gq : (quota : Int) ≤ (j : Int) := by omega
                    clear oz6 r1 r2 r3 r4 AM ID HT2 q2 q1
                    go_wp2
                    go_roundw
                    case rel => exact ⟨k + 1, by omega, by omega, by go_num, _, _, _, _, Z6.out⟩
                    case measure => simp [intOf]; omega
                  · rcases r4 q1 q2 q3 with ⟨rfl, rfl⟩ | rfl
                    · have oz6 : Hid _ := oz6
                      rw [HL.out] at q3
                      have gq : ¬ (quota : Int) ≤ (j : Int) := by omega
                      clear r1 r2 r3 r4 HT2 q2 q1
                      have sa6 : Hid _ := Oz.at_ oz6.out hw hsel.out
                      have T1 : Hid _ := xthen_put who m du di dt x0 x1 x2 N0 N1 N2 c0 c1 c2 va j vc (ls who) hw HL.out hn1000 hsel.out w6 sa6.out AM ID
                      have OT : Hid (∀ y W1, Below w6.heap.size w6 W1 → W1.ownsRow w6.heap.size 58 2 y (thn false (xid m) dt.data.toList (ls who)).length (scx (thn false (xid m) dt.data.toList (ls who))) → _) := fun y W1 hb ho => oz_then w B p q b quota (k + 1 + 1) ls _ _ _ hw oz6.out hb ho
                      obtain ⟨kb0, kb1, kb2⟩ := Oz.cells oz6.out
                      clear oz6 sa6 AM ID HL
                      go_wp2_with fail
                      refine Calls.mono T1.out ?_
                      rintro e w7 ⟨y, rfl, ho, hb7⟩
                      obtain ⟨th3, on3, OZ7⟩ := OT.out y w7 hb7 ho
                      obtain ⟨W8, hW8⟩ : ∃ W, w7.setCells B 0 (([.slice x0 N0 c0, .slice x1 N1 c1, .slice x2 N2 c2] : List Value).set who y) = W := ⟨_, rfl⟩
                      rw [hW8] at OZ7
                      have SW : Hid (w7.setCells B 0 (([.slice x0 N0 c0, .slice x1 N1 c1, .slice x2 N2 c2] : List Value).set who y).toArray.toList = W8) := by show _ = _; rw [← hW8]
                      have TH3 : Hid (w7.there B 0 (([.slice x0 N0 c0, .slice x1 N1 c1, .slice x2 N2 c2] : List Value).set who y).toArray.size) := by
                        show World.there _ _ _ _
                        rw [List.size_toArray, List.length_set]
                        exact th3
                      have I3 : Hid ((Tryz.prog.info? 54).map (·.size) = some (([.slice x0 N0 c0, .slice x1 N1 c1, .slice x2 N2 c2] : List Value).set who y).toArray.size) := by
                        show _ = _
                        rw [List.size_toArray, List.length_set]
                        exact size3
                      obtain ⟨AG, hAG⟩ : ∃ A, (([.slice x0 N0 c0, .slice x1 N1 c1, .slice x2 N2 c2] : List Value).set who y).toArray = A := ⟨_, rfl⟩
                      rw [hAG] at SW TH3 I3 on3 ⊢
                      have ON3 : Hid _ := on3
                      clear T1 OT ho hb7 th3 hW8 hAG kb0 kb1 kb2 hsel on3
                      go_wp2_with (first | (refine wpList_store_mid rfl 54 (.tmp 8) (.tmp 117) rfl B 0 AG rfl rfl TH3.out I3.out ON3.out ?_; rw [SW.out]))
                      clear SW TH3 I3 ON3
                      obtain ⟨u0, u1, u2, oz8⟩ := OZ7.out
                      obtain ⟨l8, hl8⟩ : ∃ l, upB ls who (thn false (xid m) dt.data.toList (ls who)) = l := ⟨_, rfl⟩
                      rw [hl8] at oz8
                      have A8 : Hid _ := oz_tail (Oz.later oz8 (Below.refl _ _).drew) (by omega)
                      obtain ⟨k0, k1, k2⟩ := Oz.cells (Oz.later oz8 (Below.refl _ _).drew)
                      clear OZ7 oz8 hl8
                      go_wp2_with fail
                      go_region_held3 (fun w' => w'.cell? ⟨B, 0, none⟩ = some u0 ∧ w'.cell? ⟨B, 1, none⟩ = some u1 ∧ w'.cell? ⟨B, 2, none⟩ = some u2) (first | exact ⟨k0, k1, k2⟩ | assumption) (first | (go_at_call 20; refine Calls.mono A8.out ?_; rintro e w9 ⟨z0, z1, z2, rfl, hc9, SM⟩) | (go_at_call 19; refine Calls.mono SM.out ?_; rintro e w10 ⟨rfl, hc10, F10⟩))
                      clear A8 SM k0 k1 k2 hc9 hc10
                      go_wp2
                      go_roundw
                      case rel => exact ⟨k + 1, by omega, by omega, by go_num, _, _, _, _, F10.out⟩
                      case measure => simp [intOf]; omega
                    · have FF : Hid (Below w.heap.size w w6) := Oz.below oz6
                      rw [HL.out] at q3
                      have gq : ¬ (quota : Int) ≤ (j : Int) := by omega
                      clear oz6 AM ID r1 r2 r3 r4 HT2 q2 q1
                      go_wp2
                      go_ret
                      exact ⟨rfl, FF.out⟩
      · obtain rfl : k = 60 := by omega
        have g1 : ((60 : Nat) : Int) < (len : Int) := by omega
        clear J
        go_wp2
        go_ret
        exact ⟨rfl, BW.out⟩
    · obtain rfl : k = len := by omega
      clear J
      go_wp2
      go_ret
      exact ⟨rfl, BW.out⟩
end Go.Proofs.YtjpaodepnacimaaGreatDoor
namespace Go.Proofs.YtjpaodepnacimaaGreatDoor
open Go.ChangeShapes Go.WideShapes Go.Deep Go.RowKit Go.Proofs.Fd Go.Proofs.Dk Go.Proofs.Lg Go.Proofs.Bx
set_option maxRecDepth 20000
section
variable {H : Type} {enc : TypeId × Value → H} {w : World} {base : Nat} {sp : Nat → Bool} {held : Bool}
theorem add_upD (b o k : Nat) : Addr.add ⟨b, o, none⟩ k = ⟨b, o + k, none⟩ := by first | (simp [Addr.add]; done) | (simp [Addr.add]; intro h; simp [h])
theorem doo_of {fuel : Nat} {cs : List Value} {x : DataW H × List MemPlace} (hf : DataW.trod enc Tryz.prog w base sp held fuel 56 cs = some x) : ∃ s : Doo, cs = [.int .i64 s.u, .int .i64 s.i, .bool s.a, .string s.t] := by
  obtain ⟨xs, n, rfl, rfl, hl, hxl, hff⟩ := DataW.trod_struct Tryz.underlying56 hf
  rw [show Tryz.prog.cellsOf 56 = 4 by kernel_rfl] at hl
  obtain ⟨y0, y1, y2, y3, rfl⟩ : ∃ y0 y1 y2 y3, cs = [y0, y1, y2, y3] := by
    match cs, hl with
    | [y0, y1, y2, y3], _ => exact ⟨y0, y1, y2, y3, rfl⟩
  obtain ⟨x0, x1, x2, x3, rfl⟩ : ∃ x0 x1 x2 x3, xs = [x0, x1, x2, x3] := by
    match xs, hxl with
    | [x0, x1, x2, x3], _ => exact ⟨x0, x1, x2, x3, rfl⟩
  have cc : Tryz.prog.cellsOf 3 = 1 := by kernel_rfl
  have cb : Tryz.prog.cellsOf 4 = 1 := by kernel_rfl
  have ct : Tryz.prog.cellsOf 9 = 1 := by kernel_rfl
  have g0 : DataW.trod enc Tryz.prog w base sp held n 3 (List.take (Tryz.prog.cellsOf 3) (List.drop 0 [y0, y1, y2, y3])) = some x0 := hff 0 _ rfl
  have g1 : DataW.trod enc Tryz.prog w base sp held n 3 (List.take (Tryz.prog.cellsOf 3) (List.drop 1 [y0, y1, y2, y3])) = some x1 := hff 1 _ rfl
  have g2 : DataW.trod enc Tryz.prog w base sp held n 4 (List.take (Tryz.prog.cellsOf 4) (List.drop 2 [y0, y1, y2, y3])) = some x2 := hff 2 _ rfl
  have g3 : DataW.trod enc Tryz.prog w base sp held n 9 (List.take (Tryz.prog.cellsOf 9) (List.drop 3 [y0, y1, y2, y3])) = some x3 := hff 3 _ rfl
  rw [cc] at g0 g1
  rw [cb] at g2
  rw [ct] at g3
  obtain ⟨a, ha, -⟩ := DataW.trod_int Tryz.underlying3 g0
  obtain ⟨b, hb, -⟩ := DataW.trod_int Tryz.underlying3 g1
  obtain ⟨c, hc, -⟩ := DataW.trod_bool Tryz.underlying4 g2
  obtain ⟨d, hd, -⟩ := DataW.trod_string Tryz.underlying9 g3
  have ha' : [y0] = [.int .i64 a] := ha
  have hb' : [y1] = [.int .i64 b] := hb
  have hc' : [y2] = [.bool c] := hc
  have hd' : [y3] = [.string d] := hd
  cases ha'
  cases hb'
  cases hc'
  cases hd'
  exact ⟨⟨a, b, c, d⟩, rfl⟩
theorem does_of {fuel : Nat} {cs : List Value} {x : DataW H × List MemPlace} (hf : DataW.trod enc Tryz.prog w base sp held fuel 50 cs = some x) :
    ∃ a n c ss, cs = [.slice a n c] ∧ DoAt w a ss ∧ ss.length = n := by
  rcases open_slice Tryz.underlying50 hf with ⟨h0, rfl⟩ | ⟨a, len, cap, m, n, D, Pl, rfl, hb, hl, hm, hmm, rfl, hx⟩
  · exact ⟨none, 0, 0, [], h0, fun i hi => absurd hi (Nat.not_lt_zero _), rfl⟩
  have hlm : len ≤ m := by rw [hmm]; split <;> omega
  obtain ⟨f, hfn⟩ := @choose_lt Doo ⟨⟨0, 0, false, ⟨#[]⟩⟩⟩ len (fun i (h : Doo) => w.cell? (a.add (i * 4)) = some (.int .i64 h.u) ∧ w.cell? (a.add (i * 4 + 1)) = some (.int .i64 h.i) ∧ w.cell? (a.add (i * 4 + 2)) = some (.bool h.a) ∧ w.cell? (a.add (i * 4 + 3)) = some (.string h.t)) (fun i hi => by
    obtain ⟨cs', h1, h2⟩ := hx i (by omega)
    obtain ⟨h, rfl⟩ := doo_of h2
    rw [show Tryz.prog.cellsOf 56 = 4 by kernel_rfl] at h1
    obtain ⟨-, -, hc⟩ := World.cells?_some h1
    have e0 := hc 0 (by omega)
    have e1 := hc 1 (by omega)
    have e2 := hc 2 (by omega)
    have e3 := hc 3 (by omega)
    rw [add_add] at e0 e1 e2 e3
    exact ⟨h, e0, e1, e2, e3⟩)
  refine ⟨some a, len, cap, (List.range len).map f, rfl, fun i hi => ?_, by simp⟩
  have hi' : i < len := by simpa using hi
  have hsp : a.spot = none := by
    have := World.cell?_spot (hfn 0 (by omega)).1
    simpa [Addr.add] using this
  obtain ⟨b, o, spot⟩ := a
  simp only at hsp
  subst hsp
  obtain ⟨e0, e1, e2, e3⟩ := hfn i hi'
  rw [add_upD] at e0 e1 e2 e3
  refine ⟨b, o, rfl, ?_⟩
  rw [List.getElem_map, List.getElem_range]
  exact ⟨e0, by rw [Nat.add_assoc]; exact e1, by rw [Nat.add_assoc]; exact e2, by rw [Nat.add_assoc]; exact e3⟩
end
end Go.Proofs.YtjpaodepnacimaaGreatDoor
