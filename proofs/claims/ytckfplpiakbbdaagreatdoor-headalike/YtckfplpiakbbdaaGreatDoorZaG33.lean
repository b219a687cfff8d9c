/- HeadWhole answers true. -/
import Derived.Test.YtckfplpiakbbdaaGreatDoorZaG32
import Derived.Test.YtckfplpiakbbdaaGreatDoorZaG17
import Derived.Deep.RegionHeld3
namespace Go.Proofs.YtckfplpiakbbdaaGreatDoor
open Go.RowKit Go.Proofs.Fd Go.Proofs.Hs Go.Proofs.Cc Go.Proofs.Hd Go.Proofs.Rt
set_option maxRecDepth 20000
def pvs (s : ByteArray) (m : Nat) : List ByteArray := (List.range m).map (pv s)
def pps (s : ByteArray) (m : Nat) : List ByteArray := (List.range m).map (pp s)
theorem pps_pvs (s : ByteArray) (m : Nat) : pps s m = (pvs s m).map fun k => Crv.ek (Crv.pub k) := by
  unfold pps pvs
  rw [List.map_map]
  exact List.map_congr_left fun i _ => by unfold pp; rfl
theorem pps_len (s : ByteArray) (m : Nat) : (pps s m).length = m := by simp [pps]
theorem pvs_len (s : ByteArray) (m : Nat) : (pvs s m).length = m := by simp [pvs]
theorem pvs_at (s : ByteArray) (m i : Nat) (h : i < (pvs s m).length) : (pvs s m)[i] = pv s i := by simp [pvs]
theorem pps_cells (s : ByteArray) (k : Nat) : scells (pps s (k + 1)) = scells (pps s k) ++ [.string (pp s k)] := by simp [scells, pps, List.range_succ]
theorem own8 {w w' : World} {base : Nat} {e : TypeId} {size : Nat} {v : Value} {n : Nat} {xs : List Value} (h : w.ownsRow base e size v n xs) (hb : Below w.heap.size w w') : w'.ownsRow base e size v n xs := by
  refine ⟨h.1, ?_⟩
  rcases h.2 with hn | ⟨g, cap, cur, rfl, hbg, hgg, rest⟩
  · exact .inl hn
  · refine .inr ⟨g, cap, cur, rfl, hbg, ?_, rest⟩
    rw [hb.block g (Array.getElem?_eq_some_iff.1 hgg).1]
    exact hgg
def opd0 : Oper := { dst := some 72, op := Go.Op.move (Go.Operand.tmp 17), type := 24, pos := "theorems.go:48", after := #[], guard := none }
def opd1 : Oper := { dst := some 73, op := Go.Op.binOp Go.BinOp.neq 24 (Go.Operand.tmp 72) (Go.Operand.const (Go.Value.int Go.IntKind.i64 0)) 24, type := 4, pos := "theorems.go:48", after := #[{ on := 0, ground := Go.Ground.data }], guard := none }
def opd2 : Oper := { dst := some 74, op := Go.Op.move (Go.Operand.tmp 73), type := 4, pos := "theorems.go:48", after := #[{ on := 1, ground := Go.Ground.data }], guard := none }
def opd3 : Oper := { dst := some 75, op := Go.Op.load 37 (Go.Operand.tmp 14), type := 37, pos := "theorems.go:48", after := #[{ on := 2, ground := Go.Ground.guard }], guard := some (2, false) }
def opd4 : Oper := { dst := some 76, op := Go.Op.load 37 (Go.Operand.tmp 13), type := 37, pos := "theorems.go:48", after := #[{ on := 2, ground := Go.Ground.guard }], guard := some (2, false) }
def opd5 : Oper := { dst := some 77, op := Go.Op.binOp Go.BinOp.neq 37 (Go.Operand.tmp 75) (Go.Operand.tmp 76) 37, type := 4, pos := "theorems.go:48", after := #[{ on := 3, ground := Go.Ground.data }, { on := 4, ground := Go.Ground.data }, { on := 2, ground := Go.Ground.guard }], guard := some (2, false) }
def opd6 : Oper := { dst := some 78, op := Go.Op.pick (Go.Operand.tmp 74) (Go.Operand.const (Go.Value.bool true)) (Go.Operand.tmp 77), type := 4, pos := "theorems.go:48", after := #[{ on := 2, ground := Go.Ground.data }, { on := 5, ground := Go.Ground.data }], guard := none }
def opd7 : Oper := { dst := some 79, op := Go.Op.move (Go.Operand.tmp 78), type := 4, pos := "theorems.go:48", after := #[{ on := 6, ground := Go.Ground.data }, { on := 2, ground := Go.Ground.chain }], guard := none }
def opd8 : Oper := { dst := some 80, op := Go.Op.load 23 (Go.Operand.tmp 16), type := 23, pos := "theorems.go:48", after := #[{ on := 7, ground := Go.Ground.guard }], guard := some (7, false) }
def opd9 : Oper := { dst := some 81, op := Go.Op.move (Go.Operand.tmp 10), type := 32, pos := "theorems.go:48", after := #[{ on := 7, ground := Go.Ground.guard }], guard := some (7, false) }
def opd10 : Oper := { dst := some 82, op := Go.Op.move (Go.Operand.tmp 12), type := 3, pos := "theorems.go:48", after := #[{ on := 7, ground := Go.Ground.guard }], guard := some (7, false) }
def opd11 : Oper := { dst := some 83, op := Go.Op.indexAddr 32 (Go.Operand.tmp 81) (Go.Operand.tmp 82), type := 0, pos := "theorems.go:48", after := #[{ on := 9, ground := Go.Ground.data }, { on := 10, ground := Go.Ground.data }, { on := 7, ground := Go.Ground.guard }], guard := some (7, false) }
def opd12 : Oper := { dst := some 84, op := Go.Op.load 23 (Go.Operand.tmp 83), type := 23, pos := "theorems.go:48", after := #[{ on := 11, ground := Go.Ground.data }, { on := 7, ground := Go.Ground.guard }], guard := some (7, false) }
def opd13 : Oper := { dst := some 85, op := Go.Op.binOp Go.BinOp.neq 23 (Go.Operand.tmp 80) (Go.Operand.tmp 84) 23, type := 4, pos := "theorems.go:48", after := #[{ on := 8, ground := Go.Ground.data }, { on := 12, ground := Go.Ground.data }, { on := 7, ground := Go.Ground.guard }], guard := some (7, false) }
def opd14 : Oper := { dst := some 86, op := Go.Op.pick (Go.Operand.tmp 79) (Go.Operand.const (Go.Value.bool true)) (Go.Operand.tmp 85), type := 4, pos := "theorems.go:48", after := #[{ on := 7, ground := Go.Ground.data }, { on := 13, ground := Go.Ground.data }], guard := none }
def opd15 : Oper := { dst := some 87, op := Go.Op.move (Go.Operand.tmp 86), type := 4, pos := "theorems.go:48", after := #[{ on := 14, ground := Go.Ground.data }, { on := 7, ground := Go.Ground.chain }], guard := none }
def opd16 : Oper := { dst := some 88, op := Go.Op.move (Go.Operand.tmp 9), type := 9, pos := "theorems.go:48", after := #[{ on := 15, ground := Go.Ground.guard }], guard := some (15, false) }
def opd17 : Oper := { dst := some 89, op := Go.Op.call { callee := Go.Callee.builtin Go.Builtin.len, args := #[Go.Operand.tmp 88], argTypes := #[9] }, type := 3, pos := "theorems.go:48", after := #[{ on := 16, ground := Go.Ground.data }, { on := 15, ground := Go.Ground.guard }], guard := some (15, false) }
def opd18 : Oper := { dst := some 90, op := Go.Op.binOp Go.BinOp.neq 3 (Go.Operand.tmp 89) (Go.Operand.const (Go.Value.int Go.IntKind.i64 248)) 3, type := 4, pos := "theorems.go:48", after := #[{ on := 17, ground := Go.Ground.data }, { on := 15, ground := Go.Ground.guard }], guard := some (15, false) }
def opd19 : Oper := { dst := some 91, op := Go.Op.pick (Go.Operand.tmp 87) (Go.Operand.const (Go.Value.bool true)) (Go.Operand.tmp 90), type := 4, pos := "theorems.go:48", after := #[{ on := 15, ground := Go.Ground.data }, { on := 18, ground := Go.Ground.data }], guard := none }
def opd20 : Oper := { dst := some 92, op := Go.Op.move (Go.Operand.tmp 91), type := 4, pos := "theorems.go:48", after := #[{ on := 19, ground := Go.Ground.data }, { on := 15, ground := Go.Ground.chain }], guard := none }
def opd21 : Oper := { dst := some 93, op := Go.Op.move (Go.Operand.tmp 15), type := 9, pos := "theorems.go:48", after := #[{ on := 20, ground := Go.Ground.guard }], guard := some (20, false) }
def opd22 : Oper := { dst := some 94, op := Go.Op.binOp Go.BinOp.eql 9 (Go.Operand.tmp 93) (Go.Operand.const (Go.Value.string { data := #[] })) 9, type := 4, pos := "theorems.go:48", after := #[{ on := 21, ground := Go.Ground.data }, { on := 20, ground := Go.Ground.guard }], guard := some (20, false) }
def opd23 : Oper := { dst := some 95, op := Go.Op.move (Go.Operand.tmp 12), type := 3, pos := "theorems.go:48", after := #[{ on := 20, ground := Go.Ground.guard }], guard := some (20, false) }
def opd24 : Oper := { dst := some 96, op := Go.Op.move (Go.Operand.tmp 2), type := 31, pos := "theorems.go:48", after := #[{ on := 20, ground := Go.Ground.guard }], guard := some (20, false) }
def opd25 : Oper := { dst := some 97, op := Go.Op.call { callee := Go.Callee.builtin Go.Builtin.len, args := #[Go.Operand.tmp 96], argTypes := #[31] }, type := 3, pos := "theorems.go:48", after := #[{ on := 24, ground := Go.Ground.data }, { on := 20, ground := Go.Ground.guard }], guard := some (20, false) }
def opd26 : Oper := { dst := some 98, op := Go.Op.binOp Go.BinOp.sub 3 (Go.Operand.tmp 97) (Go.Operand.const (Go.Value.int Go.IntKind.i64 1)) 3, type := 3, pos := "theorems.go:48", after := #[{ on := 25, ground := Go.Ground.data }, { on := 20, ground := Go.Ground.guard }], guard := some (20, false) }
def opd27 : Oper := { dst := some 99, op := Go.Op.binOp Go.BinOp.eql 3 (Go.Operand.tmp 95) (Go.Operand.tmp 98) 3, type := 4, pos := "theorems.go:48", after := #[{ on := 23, ground := Go.Ground.data }, { on := 26, ground := Go.Ground.data }, { on := 20, ground := Go.Ground.guard }], guard := some (20, false) }
def opd28 : Oper := { dst := some 100, op := Go.Op.binOp Go.BinOp.neq 4 (Go.Operand.tmp 94) (Go.Operand.tmp 99) 4, type := 4, pos := "theorems.go:48", after := #[{ on := 22, ground := Go.Ground.data }, { on := 27, ground := Go.Ground.data }, { on := 20, ground := Go.Ground.guard }], guard := some (20, false) }
def opd29 : Oper := { dst := some 101, op := Go.Op.pick (Go.Operand.tmp 92) (Go.Operand.const (Go.Value.bool true)) (Go.Operand.tmp 100), type := 4, pos := "theorems.go:48", after := #[{ on := 20, ground := Go.Ground.data }, { on := 28, ground := Go.Ground.data }], guard := none }
theorem made_steps (SD who : ByteArray) (hs : List Hp) (n : Nat) (zS : SD.size = 32) (hn : hs.length = n) (hp : pth hs = 0) :
    ∃ (ss : List ByteArray) (N : Nat → ByteArray), ss.length = n ∧ mkE SD (pps who n) hs = 0 ∧ mkS SD (pps who n) hs = ss ∧ mkH SD (pps who n) hs = N 0 ∧ N n = ⟨#[]⟩
      ∧ ∀ i, i < n → plV (pv who i) (N i) = #[hv (hs.getD i zh), .string (N (i + 1)), kv (nth ss i), .int .i64 0] ∧ (N i).size = 248 := by
  obtain ⟨ss, s1, s2, s3, s4, s5⟩ := made_pub SD (pvs who n) hs zS (fun k hk => by
    obtain ⟨i, -, rfl⟩ := List.mem_map.1 hk
    exact pv_size _ _) hp (by rw [pvs_len]; exact hn)
  rw [← pps_pvs] at s2 s3 s4
  rw [pvs_len] at s1
  have n1 : 0 < n := by have := pth_zero hs hp; omega
  refine ⟨ss, fun i => if i < n then ⟨(hhead SD ss hs i).toArray⟩ else ⟨#[]⟩, s1, s2, s3, ?_, if_neg (Nat.lt_irrefl n), fun i hi => ?_⟩
  · show _ = if 0 < n then _ else _
    rw [if_pos n1, s4]
  · obtain ⟨h1, h2⟩ := s5 i (by rw [pvs_len]; exact hi)
    rw [pvs_at, pvs_len] at h1
    show plV (pv who i) (if i < n then ⟨(hhead SD ss hs i).toArray⟩ else ⟨#[]⟩) = #[_, .string (if i + 1 < n then ⟨(hhead SD ss hs (i + 1)).toArray⟩ else ⟨#[]⟩), _, _] ∧ (if i < n then (⟨(hhead SD ss hs i).toArray⟩ : ByteArray) else ⟨#[]⟩).size = 248
    rw [if_pos hi]
    exact ⟨h1, by show (hhead SD ss hs i).toArray.size = 248; rw [List.size_toArray]; exact h2⟩
set_option maxHeartbeats 2000000 in
theorem HeadWhole_walk (CM : Hid MakeC) (CL : Hid PeelC) (seed who : ByteArray) (a : Option Addr) (hs : List Hp) (n cap : Nat) (hn : Hid (hs.length = n)) (hb : n * 48 ≤ 140737488351232) (hncap : n ≤ cap) (zs : Hid (seed.size + 64 ≤ 140737488355328)) (zw : Hid (who.size + 64 ≤ 140737488355328))
    (hi : Hid (∀ h ∈ hs, h.id.size ≤ 140737488355328)) (w : World) (hK : Hid (Kh w)) (hc : Hid (HopsAt w a hs)) :
    Calls Tryz.prog 6 #[.string seed, .string who, .slice a n cap] w fun e w' => e = .returned (.bool true) ∧ Below w.heap.size w w' := by
  obtain ⟨i0, hii, hz0, hz1, hz2⟩ := info_parts infoStr
  have WK : Hid (∀ w, Kh w → Calls Tryz.prog 10 #[] w fun e w' => e = .returned (.bool true) ∧ Below w.heap.size w w') := fun w h => works8_any CM CL w h
  obtain ⟨SD, hSD⟩ : ∃ S : ByteArray, pv seed 0 = S := ⟨_, rfl⟩
  have zS : SD.size = 32 := by rw [← hSD]; exact pv_size _ _
  have V1 : Hid (∀ w, Kh w → Calls Tryz.prog 16 #[.string seed, .int .i64 0] w fun e w' => e = .returned (.string SD) ∧ Below w.heap.size w w') := fun w h => by
    rw [← hSD]; exact private_any _ 0 (by decide) zs w h
  have V2 : Hid (∀ (k : Nat) w, k < 6 → Kh w → Calls Tryz.prog 16 #[.string who, .int .i64 (k : Int)] w fun e w' => e = .returned (.string (pv who k)) ∧ Below w.heap.size w w') := fun k w hk h => private_any _ k (by omega) zw w h
  have V3 : Hid (∀ (k : Nat) w, k < 6 → Kh w → Calls Tryz.prog 17 #[.string who, .int .i64 (k : Int)] w fun e w' => e = .returned (.string (pp who k)) ∧ Below w.heap.size w w') := fun k w hk h => public_any _ k (by omega) zw w h
  have zpp : ∀ k, ∀ p ∈ pps who k, p.size ≤ 140737488355328 := fun k p hp => by
    rw [pps_pvs] at hp
    obtain ⟨x, -, rfl⟩ := List.mem_map.1 hp
    rw [Crv.ek_size]; decide
  have MA : Hid (∀ (k : Nat) (pa : Option Addr) (pc : Nat) (w' : World), k ≤ 6 → Kh w' → StrAt w' pa (pps who k) → HopsAt w' a hs → Calls Tryz.prog 12 #[.string SD, .slice pa k pc, .slice a n cap] w' fun e w'' => ∃ v, e = .returned (.tuple #[.string (mkH SD (pps who k) hs), v, .int .i64 (mkE SD (pps who k) hs)]) ∧ KeysAt w'' v (mkS SD (pps who k) hs) ∧ Below w'.heap.size w' w'') := fun k pa pc w' hk h h0 h1 =>
    CM.out SD pa (pps who k) k pc a hs n cap w' ⟨pps_len _ _, hn.out⟩ ⟨by omega, hb⟩ (by show SD.size + 64 ≤ _; omega) (zpp k) hi h h0 h1
  have MN : Hid (∀ (k : Nat) (pa : Option Addr) (pc : Nat) (w' : World), pth hs ≠ 0 → k ≤ 6 → Kh w' → StrAt w' pa (pps who k) → HopsAt w' a hs → Calls Tryz.prog 12 #[.string SD, .slice pa k pc, .slice a n cap] w' fun e w'' => ∃ v c, e = .returned (.tuple #[.string ⟨#[]⟩, .slice v 0 c, .int .i64 (pth hs)]) ∧ Below w'.heap.size w' w'') := fun k pa pc w' hp hk h h0 h1 => by
    have e1 : mkE SD (pps who k) hs = pth hs := by unfold mkE; rw [if_neg hp]
    have e2 : mkS SD (pps who k) hs = [] := by unfold mkS; rw [e1, if_neg hp]
    have e3 : mkH SD (pps who k) hs = ⟨#[]⟩ := by unfold mkH; rw [e1, if_neg hp]
    refine Calls.mono (MA.out k pa pc w' hk h h0 h1) ?_
    rintro e w'' ⟨v, rfl, ⟨b, c, rfl, -, -, -⟩, hb⟩
    exact ⟨b, c, by rw [e1, e2, e3]; rfl, hb⟩
  clear hSD zpp
  go_enter Tryz.func6, Tryz.ntmps6
  go_wp2_with fail
  refine Calls.mono (WK.out _ hK.out) ?_
  rintro e w1 ⟨rfl, hb1⟩
  have B1 : Hid (Below w.heap.size w w1) := hb1
  have K1 : Hid (Kh w1) := hK.out.later hb1
  clear hb1 WK
  go_wp2_with fail
  refine Calls.mono (V1.out _ K1.out) ?_
  rintro e w2 ⟨rfl, hb2⟩
  have B2 : Hid (Below w.heap.size w w2) := chain B1.out hb2
  clear hb2 V1 K1 B1
  go_wp2_with fail
  go_loopw [7, 8] (fun sl iv wr => ∃ k : Nat, k ≤ n ∧ k ≤ 6 ∧ iv = .int .i64 (k : Int) ∧ Hid (wr.ownsRow w.heap.size 9 1 sl k (scells (pps who k)) ∧ Below w.heap.size w wr)) (fun _ iv _ => n - (intOf iv).toNat)
  case atStart => exact ⟨0, Nat.zero_le _, Nat.zero_le _, rfl, ⟨rfl, .inl ⟨rfl, rfl⟩⟩, B2.out⟩
  case round =>
    obtain ⟨k, hk1, hk6, rfl, I⟩ := hrel
    clear B2
    by_cases hlt : k < n ∧ k < 6
    · obtain ⟨hlt, hlt6⟩ := hlt
      have g1 : (k : Int) < (n : Int) := by omega
      have g2 : (k : Int) < 6 := by omega
      go_wp2_with fail
      have KW : Hid (Kh wr) := hK.out.later I.out.2
      refine Calls.mono (V3.out k _ hlt6 KW.out) ?_
      rintro e w3 ⟨rfl, hb3⟩
      have I3 : Hid (w3.ownsRow w.heap.size 9 1 _ k (scells (pps who k)) ∧ Below w.heap.size w w3) := ⟨own8 I.out.1 hb3, chain I.out.2 hb3⟩
      have PC : Hid (scells (pps who (k + 1)) = scells (pps who k) ++ [.string (pp who k)]) := pps_cells who k
      clear hb3 I KW
      generalize pp who k = X at *
      go_wp2_with (first
        | (at_builtin; refine wpList_append_own _ rfl _ _ 30 rfl w.heap.size 9 i0 (.string ⟨#[]⟩) 1 16 Tryz.underlying30 hii hz0 hz1 hz2 rfl (by decide) _ _ _ rfl (I3.out.1.alloc _) ⟨w3.heap.size, 0, none⟩ 1 1 [.string X] rfl rfl (cells_new _ _ _) (by intro u hu; simp at hu; subst hu; rfl) (by unfold maxLen; omega) (by omega) (by have := I3.out.2.size; simp; omega) ?_; intro v1 w4 hown1 hgrow1 hnil1))
      have O4 : Hid (w4.ownsRow w.heap.size 9 1 v1 (k + 1) (scells (pps who (k + 1))) ∧ Below w.heap.size w w4) := by
        refine ⟨?_, (I3.out.2.alloc I3.out.2.size _).grown hgrow1 (by have := I3.out.2.size; simp; omega) (fun k hk => (I3.out.1.lt k hk).1)⟩
        rw [PC.out]; exact hown1
      clear hown1 hgrow1 hnil1 I3 PC
      go_wp2
      exact ⟨⟨k + 1, by omega, by omega, by go_num, O4.out⟩, by simp [intOf]; omega⟩
    · obtain ⟨-, hor⟩ := owns_strs I.out.1
      obtain ⟨pa, pc, hsl, hst⟩ : ∃ pa pc, _ = Value.slice pa k pc ∧ StrAt wr pa (pps who k) := by
        rcases hor with ⟨e1, e2⟩ | ⟨g, c, e1, e2⟩
        · subst e2; exact ⟨none, 0, e1, fun i hi => by simp [pps] at hi⟩
        · exact ⟨_, c, e1, e2⟩
      subst hsl
      have HW : Hid (Below w.heap.size w wr ∧ StrAt wr pa (pps who k)) := ⟨I.out.2, hst⟩
      clear I hor hst
      by_cases g1 : k < n
      · have hp0 : pth hs ≠ 0 := fun h => by have := pth_zero hs h; have := hn.out; omega
        have g3 : (k : Int) < (n : Int) := by omega
        have g4 : ¬ (k : Int) < 6 := by omega
        have gP : ¬ pth hs = 0 := hp0
        go_wp2_with fail
        refine Calls.mono (MN.out k pa pc _ hp0 (by omega) (hK.out.later HW.out.1) HW.out.2 (hc.out.later HW.out.1 rfl)) ?_
        rintro e w3 ⟨v, c, rfl, hb3⟩
        have B3 : Hid (Below w.heap.size w w3) := chain HW.out.1 hb3
        clear hb3
        go_wp2
        go_ret
        exact ⟨rfl, B3.out⟩
      · obtain rfl : k = n := by omega
        have g4 : ¬ (k : Int) < (k : Int) := by omega
        by_cases hp0 : pth hs ≠ 0
        · have gP : ¬ pth hs = 0 := hp0
          go_wp2_with fail
          refine Calls.mono (MN.out k pa pc _ hp0 (by omega) (hK.out.later HW.out.1) HW.out.2 (hc.out.later HW.out.1 rfl)) ?_
          rintro e w3 ⟨v, c, rfl, hb3⟩
          have B3 : Hid (Below w.heap.size w w3) := chain HW.out.1 hb3
          clear hb3
          go_wp2
          go_ret
          exact ⟨rfl, B3.out⟩
        · have hp : pth hs = 0 := Classical.not_not.1 hp0
          obtain ⟨ss, N, f1, f2, f3, f4, f5, f6⟩ := made_steps SD who hs k zS hn.out hp
          have M1 := MA.out k pa pc _ hk6 (hK.out.later HW.out.1) HW.out.2 (hc.out.later HW.out.1 rfl)
          rw [f2, f3, f4] at M1
          have FF : Hid (ss.length = k ∧ N k = ⟨#[]⟩ ∧ ∀ i, i < k → (N i).size = 248) := ⟨f1, f5, fun i hi => (f6 i hi).2⟩
          have PL : Hid (∀ (i : Nat) (w' : World), i < k → Kh w' → Calls Tryz.prog 14 #[.string (pv who i), .string (N i)] w' fun e w'' => e = .returned (.tuple #[hv (hs.getD i zh), .string (N (i + 1)), kv (nth ss i), .int .i64 0]) ∧ Below w'.heap.size w' w'') := fun i w' hi h => by
            have := CL.out (pv who i) (N i) w' (by show (pv who i).size ≤ _; rw [pv_size]; decide) (by show (N i).size ≤ _; rw [(f6 i hi).2]; decide) h
            rw [(f6 i hi).1] at this
            exact this
          clear f1 f2 f3 f4 f5 f6 MN MA hp0 V3
          go_wp2_with fail
          refine Calls.mono M1 ?_
          rintro e w3 ⟨v, rfl, ky, hb3⟩
          obtain ⟨ka, kc, rfl, kl, kx, kcells⟩ := ky
          have KY : Hid (KeysAt w3 (.slice ka k kc) ss) := ⟨ka, kc, by rw [FF.out.1], kl, kx, kcells⟩
          rw [FF.out.1] at kl
          have KYC : Hid (∀ w' i, Below w3.heap.size w3 w' → i < k → ∃ b o, ka = some ⟨b, o, none⟩
              ∧ w'.cell? ⟨b, o + i * 5, none⟩ = some (.string (hdk (nth ss i) lFlow 32)) ∧ w'.cell? ⟨b, o + i * 5 + 1, none⟩ = some (.string (hdk (nth ss i) lMac 32)) ∧ w'.cell? ⟨b, o + i * 5 + 2, none⟩ = some (.string (hdk (nth ss i) lBody 32))
              ∧ w'.cell? ⟨b, o + i * 5 + 3, none⟩ = some (.string (bld (nth ss i))) ∧ w'.cell? ⟨b, o + i * 5 + 4, none⟩ = some (.string (hdk (nth ss i) lTag 16))) := fun w' i hb hi => by
            obtain ⟨b, o, e, c0, c1, c2, c3, c4⟩ := kcells i (by rw [FF.out.1]; exact hi)
            exact ⟨b, o, e, cell_later hb c0, cell_later hb c1, cell_later hb c2, cell_later hb c3, cell_later hb c4⟩
          have B3 : Hid (Below w.heap.size w w3) := chain HW.out.1 hb3
          rw [FF.out.1]
          clear hb3 kcells M1 HW KY
          go_wp2_with fail
          go_loopw [9, 57] (fun hvv iv wx => ∃ i : Nat, i ≤ k ∧ iv = .int .i64 (i : Int) ∧ hvv = .string (N i) ∧ Hid (Below w3.heap.size w3 wx)) (fun _ iv _ => k - (intOf iv).toNat)
          case atStart => exact ⟨0, Nat.zero_le _, rfl, rfl, Below.refl _ _⟩
          case round =>
            obtain ⟨i, hik, rfl, rfl, I⟩ := hrel
            by_cases hlt : i < k
            · have g5 : (i : Int) < (k : Int) := by omega
              obtain ⟨b2, o2, he2, d0, d1, d2, d3, d4⟩ := (hc.out.later (chain B3.out I.out) rfl) i (by rw [hn.out]; exact hlt)
              subst he2
              have P1 := PL.out i
              have NS : Hid ((N i).size = 248 ∧ (N (i + 1) = ⟨#[]⟩ ↔ i + 1 = k)) := by
                refine ⟨FF.out.2.2 i hlt, fun h => ?_, fun h => by rw [h]; exact FF.out.2.1⟩
                rcases Nat.lt_or_ge (i + 1) k with q | q
                · have := FF.out.2.2 (i + 1) q
                  rw [h] at this
                  exact absurd this (by decide)
                · omega
              have K1 := KYC.out
              have V := V2.out i
              obtain ⟨PV, hPV⟩ : ∃ P : ByteArray, pv who i = P := ⟨_, rfl⟩
              rw [hPV] at P1 V
              clear hPV
              generalize hs.getD i zh = h at *
              obtain ⟨hk, hn', hu, hd, hid⟩ := h
              simp only at d0 d1 d2 d3 d4
              go_wp2_with fail
              have B4 : Hid (Below w3.heap.size w3 (wr.alloc (.cells #[.int .i64 hk, .int .i64 hn', .int .i64 hu, .int .i64 hd, .string hid] 37))) := I.out.alloc I.out.size _
              have h0 : (wr.alloc (.cells #[.int .i64 hk, .int .i64 hn', .int .i64 hu, .int .i64 hd, .string hid] 37)).cell? ⟨wr.heap.size, 0, none⟩ = some (.int .i64 hk) := by simp [go_sem]
              have h1 : (wr.alloc (.cells #[.int .i64 hk, .int .i64 hn', .int .i64 hu, .int .i64 hd, .string hid] 37)).cell? ⟨wr.heap.size, 1, none⟩ = some (.int .i64 hn') := by simp [go_sem]
              have h2 : (wr.alloc (.cells #[.int .i64 hk, .int .i64 hn', .int .i64 hu, .int .i64 hd, .string hid] 37)).cell? ⟨wr.heap.size, 2, none⟩ = some (.int .i64 hu) := by simp [go_sem]
              have h3 : (wr.alloc (.cells #[.int .i64 hk, .int .i64 hn', .int .i64 hu, .int .i64 hd, .string hid] 37)).cell? ⟨wr.heap.size, 3, none⟩ = some (.int .i64 hd) := by simp [go_sem]
              have h4 : (wr.alloc (.cells #[.int .i64 hk, .int .i64 hn', .int .i64 hu, .int .i64 hd, .string hid] 37)).cell? ⟨wr.heap.size, 4, none⟩ = some (.string hid) := by simp [go_sem]
              generalize wr.alloc (.cells #[.int .i64 hk, .int .i64 hn', .int .i64 hu, .int .i64 hd, .string hid] 37) = w4 at *
              generalize wr.heap.size = G0 at *
              clear d0 d1 d2 d3 d4 I
              refine Calls.mono (V _ (by omega) (hK.out.later (chain B3.out B4.out))) ?_
              rintro e w5 ⟨rfl, hb5⟩
              have B5 : Hid (Below w3.heap.size w3 w5) := chain B4.out hb5
              replace h0 := cell_later hb5 h0
              replace h1 := cell_later hb5 h1
              replace h2 := cell_later hb5 h2
              replace h3 := cell_later hb5 h3
              replace h4 := cell_later hb5 h4
              clear hb5 B4 V
              go_wp2_with fail
              refine Calls.mono (P1 _ hlt (hK.out.later (chain B3.out B5.out))) ?_
              rintro e w6 ⟨rfl, hb6⟩
              have B6 : Hid (Below w3.heap.size w3 w6) := chain B5.out hb6
              replace h0 := cell_later hb6 h0
              replace h1 := cell_later hb6 h1
              replace h2 := cell_later hb6 h2
              replace h3 := cell_later hb6 h3
              replace h4 := cell_later hb6 h4
              clear hb6 B5 P1
              obtain ⟨Y, hYY⟩ : ∃ Y : ByteArray, N (i + 1) = Y := ⟨_, rfl⟩
              have HY : Hid (Value.string Y = Value.string (N (i + 1))) := (show Value.string Y = Value.string (N (i + 1)) by rw [hYY])
              rw [hYY]
              rw [hYY] at NS
              clear hYY
              generalize N i = X at *
              unfold hv kv
              obtain ⟨b3, o3, rfl, KC⟩ := K1 w6 i B6.out hlt
              generalize hdk (nth ss i) lFlow 32 = k0 at *
              generalize hdk (nth ss i) lMac 32 = k1 at *
              generalize hdk (nth ss i) lBody 32 = k2 at *
              generalize bld (nth ss i) = k3 at *
              generalize hdk (nth ss i) lTag 16 = k4 at *
              obtain ⟨c0, c1, c2, c3, c4⟩ := KC
              clear K1
              go_wp2_with fail
              obtain ⟨G, hG⟩ : ∃ G : Nat, w6.heap.size = G := ⟨_, rfl⟩
              have HB : Below w6.heap.size w6 ((w6.alloc (.cells #[.int .i64 hk, .int .i64 hn', .int .i64 hu, .int .i64 hd, .string hid] 37)).alloc (.cells #[.string k0, .string k1, .string k2, .string k3, .string k4] 23)) := ((Below.refl _ _).alloc (Nat.le_refl _) _).alloc (by simp [go_sem]) _
              obtain ⟨W, hW⟩ : ∃ W : World, (w6.alloc (.cells #[.int .i64 hk, .int .i64 hn', .int .i64 hu, .int .i64 hd, .string hid] 37)).alloc (.cells #[.string k0, .string k1, .string k2, .string k3, .string k4] 23) = W := ⟨_, rfl⟩
              have d0 : W.cell? ⟨G, 0, none⟩ = some (.int .i64 hk) := by rw [← hW, ← hG]; simp [go_sem]
              have d1 : W.cell? ⟨G, 1, none⟩ = some (.int .i64 hn') := by rw [← hW, ← hG]; simp [go_sem]
              have d2 : W.cell? ⟨G, 2, none⟩ = some (.int .i64 hu) := by rw [← hW, ← hG]; simp [go_sem]
              have d3 : W.cell? ⟨G, 3, none⟩ = some (.int .i64 hd) := by rw [← hW, ← hG]; simp [go_sem]
              have d4 : W.cell? ⟨G, 4, none⟩ = some (.string hid) := by rw [← hW, ← hG]; simp [go_sem]
              have f0 : W.cell? ⟨G + 1, 0, none⟩ = some (.string k0) := by rw [← hW, ← hG]; simp [go_sem]
              have f1 : W.cell? ⟨G + 1, 1, none⟩ = some (.string k1) := by rw [← hW, ← hG]; simp [go_sem]
              have f2 : W.cell? ⟨G + 1, 2, none⟩ = some (.string k2) := by rw [← hW, ← hG]; simp [go_sem]
              have f3 : W.cell? ⟨G + 1, 3, none⟩ = some (.string k3) := by rw [← hW, ← hG]; simp [go_sem]
              have f4 : W.cell? ⟨G + 1, 4, none⟩ = some (.string k4) := by rw [← hW, ← hG]; simp [go_sem]
              replace c0 := cell_later HB c0
              replace c1 := cell_later HB c1
              replace c2 := cell_later HB c2
              replace c3 := cell_later HB c3
              replace c4 := cell_later HB c4
              replace h0 := cell_later HB h0
              replace h1 := cell_later HB h1
              replace h2 := cell_later HB h2
              replace h3 := cell_later HB h3
              replace h4 := cell_later HB h4
              have B7 : Hid (Below w3.heap.size w3 W) := by rw [← hW]; exact chain B6.out HB
              clear HB B6
              rw [hW] at c0 c1 c2 c3 c4 h0 h1 h2 h3 h4
              rw [hW, hG]
              clear hW hG
              have Ik0 : (k0.toList == k0.toList) = true := by simp
              have Ik1 : (k1.toList == k1.toList) = true := by simp
              have Ik2 : (k2.toList == k2.toList) = true := by simp
              have Ik3 : (k3.toList == k3.toList) = true := by simp
              have Ik4 : (k4.toList == k4.toList) = true := by simp
              have Ihid : (hid.toList == hid.toList) = true := by simp
              have zX : X.size = 248 := NS.out.1
              have zXi : (X.size : Int) = 248 := by omega
              obtain ⟨m, hm⟩ : ∃ m : Nat, k - 1 = m := ⟨_, rfl⟩
              have g6 : IntKind.i64.wrap ((k : Int) - 1) = (m : Int) := by rw [IntKind.wrap_i64]; omega
              have g7 : wrap64 ((k : Int) - 1) = (m : Int) := by unfold wrap64; omega
              obtain ⟨t, ht⟩ : ∃ t : Bool, decide (i + 1 = k) = t := ⟨_, rfl⟩
              have ht1 : Y.toList.isEmpty = t := by
                rw [← ht, Bool.eq_iff_iff, List.isEmpty_iff, decide_eq_true_iff, ← NS.out.2, ByteArray.toList_eq]
                exact ⟨fun h => ByteArray.ext (Array.toList_inj.1 h), fun h => by rw [h]⟩
              have ht2 : ((i : Int) == (m : Int)) = t := by
                rw [← ht, Bool.eq_iff_iff, beq_iff_eq, decide_eq_true_iff]
                omega
              have htt : (t == t) = true := by simp
              clear ht
              clear hm
              refine wp_region_noPanic ?_
              refine wp_region_held_drew (S := fun w' => w'.cell? ⟨G0, 0, none⟩ = some (.int .i64 hk) ∧ w'.cell? ⟨G0, 1, none⟩ = some (.int .i64 hn') ∧ w'.cell? ⟨G0, 2, none⟩ = some (.int .i64 hu) ∧ w'.cell? ⟨G0, 3, none⟩ = some (.int .i64 hd) ∧ w'.cell? ⟨G0, 4, none⟩ = some (.string hid) ∧ w'.cell? ⟨G, 0, none⟩ = some (.int .i64 hk) ∧ w'.cell? ⟨G, 1, none⟩ = some (.int .i64 hn') ∧ w'.cell? ⟨G, 2, none⟩ = some (.int .i64 hu) ∧ w'.cell? ⟨G, 3, none⟩ = some (.int .i64 hd) ∧ w'.cell? ⟨G, 4, none⟩ = some (.string hid) ∧ w'.cell? ⟨G + 1, 0, none⟩ = some (.string k0) ∧ w'.cell? ⟨G + 1, 1, none⟩ = some (.string k1) ∧ w'.cell? ⟨G + 1, 2, none⟩ = some (.string k2) ∧ w'.cell? ⟨G + 1, 3, none⟩ = some (.string k3) ∧ w'.cell? ⟨G + 1, 4, none⟩ = some (.string k4) ∧ w'.cell? ⟨b3, o3 + i * 5, none⟩ = some (.string k0) ∧ w'.cell? ⟨b3, o3 + i * 5 + 1, none⟩ = some (.string k1) ∧ w'.cell? ⟨b3, o3 + i * 5 + 2, none⟩ = some (.string k2) ∧ w'.cell? ⟨b3, o3 + i * 5 + 3, none⟩ = some (.string k3) ∧ w'.cell? ⟨b3, o3 + i * 5 + 4, none⟩ = some (.string k4)) (by kernel_rfl) ⟨h0, h1, h2, h3, h4, d0, d1, d2, d3, d4, f0, f1, f2, f3, f4, c0, c1, c2, c3, c4⟩ (fun hHeld => ?_)
              refine wpAnyH_take (i := 0) (oi := opd0) (v := (.int .i64 0)) rfl (by kernel_rfl) (by kernel_rfl) (by kernel_rfl) (fun _ _ _ h => h) (Or.inl ⟨by rfl, ?_⟩) (by assumption) ?_
              · intro w' hSw
                clear hSw
                unfold opd0
                go_simp
              simp only [opd0, Act.put, List.setIfInBounds_toArray, List.set_cons_zero, List.set_cons_succ]
              refine wpAnyH_take (i := 1) (oi := opd1) (v := (.bool false)) rfl (by kernel_rfl) (by kernel_rfl) (by kernel_rfl) (fun _ _ _ h => h) (Or.inl ⟨by rfl, ?_⟩) (by assumption) ?_
              · intro w' hSw
                clear hSw
                unfold opd1
                go_simp
              simp only [opd1, Act.put, List.setIfInBounds_toArray, List.set_cons_zero, List.set_cons_succ]
              refine wpAnyH_take (i := 2) (oi := opd2) (v := (.bool false)) rfl (by kernel_rfl) (by kernel_rfl) (by kernel_rfl) (fun _ _ _ h => h) (Or.inl ⟨by rfl, ?_⟩) (by assumption) ?_
              · intro w' hSw
                clear hSw
                unfold opd2
                go_simp
              simp only [opd2, Act.put, List.setIfInBounds_toArray, List.set_cons_zero, List.set_cons_succ]
              refine wpAnyH_take (i := 3) (oi := opd3) (v := (.agg #[.int .i64 hk, .int .i64 hn', .int .i64 hu, .int .i64 hd, .string hid])) rfl (by kernel_rfl) (by kernel_rfl) (by kernel_rfl) (fun _ _ _ h => h) (Or.inl ⟨by rfl, ?_⟩) (by assumption) ?_
              · intro w' hSw
                obtain ⟨p0, p1, p2, p3, p4, p5, p6, p7, p8, p9, p10, p11, p12, p13, p14, p15, p16, p17, p18, p19⟩ := hSw
                unfold opd3
                go_simp
              simp only [opd3, Act.put, List.setIfInBounds_toArray, List.set_cons_zero, List.set_cons_succ]
              refine wpAnyH_take (i := 4) (oi := opd4) (v := (.agg #[.int .i64 hk, .int .i64 hn', .int .i64 hu, .int .i64 hd, .string hid])) rfl (by kernel_rfl) (by kernel_rfl) (by kernel_rfl) (fun _ _ _ h => h) (Or.inl ⟨by rfl, ?_⟩) (by assumption) ?_
              · intro w' hSw
                obtain ⟨p0, p1, p2, p3, p4, p5, p6, p7, p8, p9, p10, p11, p12, p13, p14, p15, p16, p17, p18, p19⟩ := hSw
                unfold opd4
                go_simp
              simp only [opd4, Act.put, List.setIfInBounds_toArray, List.set_cons_zero, List.set_cons_succ]
              refine wpAnyH_take (i := 5) (oi := opd5) (v := (.bool false)) rfl (by kernel_rfl) (by kernel_rfl) (by kernel_rfl) (fun _ _ _ h => h) (Or.inl ⟨by rfl, ?_⟩) (by assumption) ?_
              · intro w' hSw
                clear hSw
                unfold opd5
                go_simp
              simp only [opd5, Act.put, List.setIfInBounds_toArray, List.set_cons_zero, List.set_cons_succ]
              refine wpAnyH_take (i := 6) (oi := opd6) (v := (.bool false)) rfl (by kernel_rfl) (by kernel_rfl) (by kernel_rfl) (fun _ _ _ h => h) (Or.inl ⟨by rfl, ?_⟩) (by assumption) ?_
              · intro w' hSw
                clear hSw
                unfold opd6
                go_simp
              simp only [opd6, Act.put, List.setIfInBounds_toArray, List.set_cons_zero, List.set_cons_succ]
              refine wpAnyH_take (i := 7) (oi := opd7) (v := (.bool false)) rfl (by kernel_rfl) (by kernel_rfl) (by kernel_rfl) (fun _ _ _ h => h) (Or.inl ⟨by rfl, ?_⟩) (by assumption) ?_
              · intro w' hSw
                clear hSw
                unfold opd7
                go_simp
              simp only [opd7, Act.put, List.setIfInBounds_toArray, List.set_cons_zero, List.set_cons_succ]
              refine wpAnyH_take (i := 8) (oi := opd8) (v := (.agg #[.string k0, .string k1, .string k2, .string k3, .string k4])) rfl (by kernel_rfl) (by kernel_rfl) (by kernel_rfl) (fun _ _ _ h => h) (Or.inl ⟨by rfl, ?_⟩) (by assumption) ?_
              · intro w' hSw
                obtain ⟨p0, p1, p2, p3, p4, p5, p6, p7, p8, p9, p10, p11, p12, p13, p14, p15, p16, p17, p18, p19⟩ := hSw
                unfold opd8
                go_simp
              simp only [opd8, Act.put, List.setIfInBounds_toArray, List.set_cons_zero, List.set_cons_succ]
              refine wpAnyH_take (i := 9) (oi := opd9) (v := (.slice (some ⟨b3, o3, none⟩) k kc)) rfl (by kernel_rfl) (by kernel_rfl) (by kernel_rfl) (fun _ _ _ h => h) (Or.inl ⟨by rfl, ?_⟩) (by assumption) ?_
              · intro w' hSw
                clear hSw
                unfold opd9
                go_simp
              simp only [opd9, Act.put, List.setIfInBounds_toArray, List.set_cons_zero, List.set_cons_succ]
              refine wpAnyH_take (i := 10) (oi := opd10) (v := (.int .i64 (i : Int))) rfl (by kernel_rfl) (by kernel_rfl) (by kernel_rfl) (fun _ _ _ h => h) (Or.inl ⟨by rfl, ?_⟩) (by assumption) ?_
              · intro w' hSw
                clear hSw
                unfold opd10
                go_simp
              simp only [opd10, Act.put, List.setIfInBounds_toArray, List.set_cons_zero, List.set_cons_succ]
              refine wpAnyH_take (i := 11) (oi := opd11) (v := (.pointer (some ⟨b3, o3 + i * 5, none⟩))) rfl (by kernel_rfl) (by kernel_rfl) (by kernel_rfl) (fun _ _ _ h => h) (Or.inl ⟨by rfl, ?_⟩) (by assumption) ?_
              · intro w' hSw
                clear hSw
                unfold opd11
                go_simp
              simp only [opd11, Act.put, List.setIfInBounds_toArray, List.set_cons_zero, List.set_cons_succ]
              refine wpAnyH_take (i := 12) (oi := opd12) (v := (.agg #[.string k0, .string k1, .string k2, .string k3, .string k4])) rfl (by kernel_rfl) (by kernel_rfl) (by kernel_rfl) (fun _ _ _ h => h) (Or.inl ⟨by rfl, ?_⟩) (by assumption) ?_
              · intro w' hSw
                obtain ⟨p0, p1, p2, p3, p4, p5, p6, p7, p8, p9, p10, p11, p12, p13, p14, p15, p16, p17, p18, p19⟩ := hSw
                unfold opd12
                go_simp
              simp only [opd12, Act.put, List.setIfInBounds_toArray, List.set_cons_zero, List.set_cons_succ]
              refine wpAnyH_take (i := 13) (oi := opd13) (v := (.bool false)) rfl (by kernel_rfl) (by kernel_rfl) (by kernel_rfl) (fun _ _ _ h => h) (Or.inl ⟨by rfl, ?_⟩) (by assumption) ?_
              · intro w' hSw
                exact exec_neq_keys _ _ (.tmp 80) (.tmp 84) k0 k1 k2 k3 k4 rfl rfl rfl w'
              simp only [opd13, Act.put, List.setIfInBounds_toArray, List.set_cons_zero, List.set_cons_succ]
              refine wpAnyH_take (i := 14) (oi := opd14) (v := (.bool false)) rfl (by kernel_rfl) (by kernel_rfl) (by kernel_rfl) (fun _ _ _ h => h) (Or.inl ⟨by rfl, ?_⟩) (by assumption) ?_
              · intro w' hSw
                clear hSw
                unfold opd14
                go_simp
              simp only [opd14, Act.put, List.setIfInBounds_toArray, List.set_cons_zero, List.set_cons_succ]
              refine wpAnyH_take (i := 15) (oi := opd15) (v := (.bool false)) rfl (by kernel_rfl) (by kernel_rfl) (by kernel_rfl) (fun _ _ _ h => h) (Or.inl ⟨by rfl, ?_⟩) (by assumption) ?_
              · intro w' hSw
                clear hSw
                unfold opd15
                go_simp
              simp only [opd15, Act.put, List.setIfInBounds_toArray, List.set_cons_zero, List.set_cons_succ]
              refine wpAnyH_take (i := 16) (oi := opd16) (v := (.string X)) rfl (by kernel_rfl) (by kernel_rfl) (by kernel_rfl) (fun _ _ _ h => h) (Or.inl ⟨by rfl, ?_⟩) (by assumption) ?_
              · intro w' hSw
                clear hSw
                unfold opd16
                go_simp
              simp only [opd16, Act.put, List.setIfInBounds_toArray, List.set_cons_zero, List.set_cons_succ]
              refine wpAnyH_take (i := 17) (oi := opd17) (v := (.int .i64 248)) rfl (by kernel_rfl) (by kernel_rfl) (by kernel_rfl) (fun _ _ _ h => h) (Or.inl ⟨by rfl, ?_⟩) (by assumption) ?_
              · intro w' hSw
                clear hSw
                unfold opd17
                go_simp
              simp only [opd17, Act.put, List.setIfInBounds_toArray, List.set_cons_zero, List.set_cons_succ]
              refine wpAnyH_take (i := 18) (oi := opd18) (v := (.bool false)) rfl (by kernel_rfl) (by kernel_rfl) (by kernel_rfl) (fun _ _ _ h => h) (Or.inl ⟨by rfl, ?_⟩) (by assumption) ?_
              · intro w' hSw
                clear hSw
                unfold opd18
                go_simp
              simp only [opd18, Act.put, List.setIfInBounds_toArray, List.set_cons_zero, List.set_cons_succ]
              refine wpAnyH_take (i := 19) (oi := opd19) (v := (.bool false)) rfl (by kernel_rfl) (by kernel_rfl) (by kernel_rfl) (fun _ _ _ h => h) (Or.inl ⟨by rfl, ?_⟩) (by assumption) ?_
              · intro w' hSw
                clear hSw
                unfold opd19
                go_simp
              simp only [opd19, Act.put, List.setIfInBounds_toArray, List.set_cons_zero, List.set_cons_succ]
              refine wpAnyH_take (i := 20) (oi := opd20) (v := (.bool false)) rfl (by kernel_rfl) (by kernel_rfl) (by kernel_rfl) (fun _ _ _ h => h) (Or.inl ⟨by rfl, ?_⟩) (by assumption) ?_
              · intro w' hSw
                clear hSw
                unfold opd20
                go_simp
              simp only [opd20, Act.put, List.setIfInBounds_toArray, List.set_cons_zero, List.set_cons_succ]
              refine wpAnyH_take (i := 21) (oi := opd21) (v := (.string Y)) rfl (by kernel_rfl) (by kernel_rfl) (by kernel_rfl) (fun _ _ _ h => h) (Or.inl ⟨by rfl, ?_⟩) (by assumption) ?_
              · intro w' hSw
                clear hSw
                unfold opd21
                go_simp
              simp only [opd21, Act.put, List.setIfInBounds_toArray, List.set_cons_zero, List.set_cons_succ]
              refine wpAnyH_take (i := 22) (oi := opd22) (v := (.bool t)) rfl (by kernel_rfl) (by kernel_rfl) (by kernel_rfl) (fun _ _ _ h => h) (Or.inl ⟨by rfl, ?_⟩) (by assumption) ?_
              · intro w' hSw
                clear hSw
                unfold opd22
                go_simp
              simp only [opd22, Act.put, List.setIfInBounds_toArray, List.set_cons_zero, List.set_cons_succ]
              refine wpAnyH_take (i := 23) (oi := opd23) (v := (.int .i64 (i : Int))) rfl (by kernel_rfl) (by kernel_rfl) (by kernel_rfl) (fun _ _ _ h => h) (Or.inl ⟨by rfl, ?_⟩) (by assumption) ?_
              · intro w' hSw
                clear hSw
                unfold opd23
                go_simp
              simp only [opd23, Act.put, List.setIfInBounds_toArray, List.set_cons_zero, List.set_cons_succ]
              refine wpAnyH_take (i := 24) (oi := opd24) (v := (.slice (some ⟨b2, o2, none⟩) k cap)) rfl (by kernel_rfl) (by kernel_rfl) (by kernel_rfl) (fun _ _ _ h => h) (Or.inl ⟨by rfl, ?_⟩) (by assumption) ?_
              · intro w' hSw
                clear hSw
                unfold opd24
                go_simp
              simp only [opd24, Act.put, List.setIfInBounds_toArray, List.set_cons_zero, List.set_cons_succ]
              refine wpAnyH_take (i := 25) (oi := opd25) (v := (.int .i64 (k : Int))) rfl (by kernel_rfl) (by kernel_rfl) (by kernel_rfl) (fun _ _ _ h => h) (Or.inl ⟨by rfl, ?_⟩) (by assumption) ?_
              · intro w' hSw
                clear hSw
                unfold opd25
                go_simp
              simp only [opd25, Act.put, List.setIfInBounds_toArray, List.set_cons_zero, List.set_cons_succ]
              refine wpAnyH_take (i := 26) (oi := opd26) (v := (.int .i64 (m : Int))) rfl (by kernel_rfl) (by kernel_rfl) (by kernel_rfl) (fun _ _ _ h => h) (Or.inl ⟨by rfl, ?_⟩) (by assumption) ?_
              · intro w' hSw
                clear hSw
                unfold opd26
                go_simp
              simp only [opd26, Act.put, List.setIfInBounds_toArray, List.set_cons_zero, List.set_cons_succ]
              refine wpAnyH_take (i := 27) (oi := opd27) (v := (.bool t)) rfl (by kernel_rfl) (by kernel_rfl) (by kernel_rfl) (fun _ _ _ h => h) (Or.inl ⟨by rfl, ?_⟩) (by assumption) ?_
              · intro w' hSw
                clear hSw
                unfold opd27
                go_simp
              simp only [opd27, Act.put, List.setIfInBounds_toArray, List.set_cons_zero, List.set_cons_succ]
              refine wpAnyH_take (i := 28) (oi := opd28) (v := (.bool false)) rfl (by kernel_rfl) (by kernel_rfl) (by kernel_rfl) (fun _ _ _ h => h) (Or.inl ⟨by rfl, ?_⟩) (by assumption) ?_
              · intro w' hSw
                clear hSw
                unfold opd28
                go_simp
              simp only [opd28, Act.put, List.setIfInBounds_toArray, List.set_cons_zero, List.set_cons_succ]
              refine wpAnyH_take (i := 29) (oi := opd29) (v := (.bool false)) rfl (by kernel_rfl) (by kernel_rfl) (by kernel_rfl) (fun _ _ _ h => h) (Or.inl ⟨by rfl, ?_⟩) (by assumption) ?_
              · intro w' hSw
                clear hSw
                unfold opd29
                go_simp
              simp only [opd29, Act.put, List.setIfInBounds_toArray, List.set_cons_zero, List.set_cons_succ]
              refine wpAnyH_done (by kernel_rfl) ?_ _
              refine NoPanic.normal ?_
              clear hHeld
              have BN : Hid (Below w3.heap.size w3 W.drew) := B7.out.drew
              clear c0 c1 c2 c3 c4 d0 d1 d2 d3 d4 f0 f1 f2 f3 f4 h0 h1 h2 h3 h4
              go_wp2
              exact ⟨⟨i + 1, by omega, by go_num, HY.out, BN.out⟩, by simp [intOf]; omega⟩
            · have g5 : ¬ (i : Int) < (k : Int) := by omega
              have BE : Hid (Below w.heap.size w wr) := chain B3.out I.out
              clear I
              go_wp2
              go_ret
              exact ⟨rfl, BE.out⟩
end Go.Proofs.YtckfplpiakbbdaaGreatDoor
