/- The document's Decode. -/
import Derived.Test.YtbaajpefefedbaaMlV
namespace Go.Proofs.Ml
theorem decR_of {l : List UInt8} (h : fitM l = true) : decR l = (okB (rdR l) && decide (txt (rdR l) = l)) := by unfold decR; rw [h]; rfl
/-- A packet's text is a message. -/
theorem decR_packet {l : List UInt8} (h1 : bn l 0 = 1) (hl : l.length = 505) : decR l = true ∧ rdR l = ⟨1, 0, 0, mk (l.drop 1), e0, [], []⟩ := by
  have hf : fitM l = true := by
    unfold fitM
    rw [h1, decide_eq_false (fun z => by rw [z] at hl; cases hl), decide_eq_true (by rw [hl]; rfl)]; rfl
  have hr : rdR l = ⟨1, 0, 0, mk (l.drop 1), e0, [], []⟩ := rdW_1 _ h1
  have hok : okB ⟨1, 0, 0, mk (l.drop 1), e0, [], []⟩ = true := by
    have : (mk (l.drop 1)).size = 504 := by rw [mk_size, List.length_drop, hl]
    generalize mk (l.drop 1) = y at this ⊢
    unfold okB szB
    simp [this, size_e0]
  refine ⟨?_, hr⟩
  rw [decR_of hf, hr, hok, Bool.true_and]
  apply decide_eq_true
  rw [txt_one hok rfl]
  show [1] ++ by' (mk (l.drop 1)) = l
  rw [by_mk]
  cases l with
  | nil => cases hl
  | cons x r =>
    have hx : x = 1 := UInt8.toNat.inj h1
    rw [hx]; rfl
def dmR (l : List UInt8) : Ml := if decR l = true then rdR l else zm
def deR (l : List UInt8) : Int := if decR l = true then 0 else 110
theorem dR_same (l : List UInt8) : dmR l = dm l ∧ deR l = de l := by
  unfold dmR deR dm de
  obtain ⟨h1, h2⟩ := dec_same l
  rw [← h1]
  cases h : decB l with
  | false => exact ⟨rfl, rfl⟩
  | true => rw [h2 h]; exact ⟨rfl, rfl⟩
theorem rIdsR_len (n : Nat) (l : List UInt8) : (rIdsR n l).length ≤ n := by
  induction n generalizing l with
  | zero => exact Nat.le_refl _
  | succ n ih =>
    unfold rIdsR
    split
    · rw [List.length_cons]; exact Nat.succ_le_succ (ih _)
    · exact Nat.le_succ_of_le (ih _)
end Go.Proofs.Ml
namespace Go.Proofs.Ytbaajpefefedbaa
open Go.RowKit Go.Proofs.Fd Go.Proofs.Ml
set_option maxRecDepth 20000

theorem idB_nz {y : ByteArray} (h : y.size = 16) : idB y = nz (by' y) := idB_16 h
theorem res_rdecode (tmps : Array Value) (w : World) (b : Nat) (k u q : Int) (t g : ByteArray) (a : Option Addr) (n c : Nat) (a2 : Option Addr) (n2 c2 : Nat) (e : Int) (h2 : tmps.getD 2 undef = .pointer (some ⟨b, 0, none⟩)) (h3 : tmps.getD 3 undef = .int .i64 e) (l : MlAt w b k u q t g a n c a2 n2 c2) :
    (results Try.f18 tmps).run Try.prog w = .ok (.tuple #[mv k u q t g a n c a2 n2 c2, .int .i64 e]) w := by
  have l1 := run_loadVar_mid (P := Try.prog) w b 0 25 _ _ l.range Try.underlying25 rfl (by kernel_rfl)
  unfold results
  rw [Try.results18]
  have h2' : tmps[2]?.getD undef = .pointer (some ⟨b, 0, none⟩) := by simpa using h2
  have h3' : tmps[3]?.getD undef = .int .i64 e := by simpa using h3
  simp [h2', h3', l1, asAddr]
theorem app_slot (V : World) (ty base : Nat) (v : Value) (m : Nat) (ks : List Sl) (hown : V.ownsRow base 52 2 v m (slcells ks)) (id tx : ByteArray) (hz : m ≤ 1000) (hb : base ≤ V.heap.size) :
    ∃ v' w', (Builtin.append_ #[22, 22] ty #[v, .slice (some ⟨V.heap.size, 0, none⟩) 1 1]).run Try.prog (V.alloc (.cells #[.string id, .string tx] 52)) = .ok v' w' ∧ w'.ownsRow base 52 2 v' (m + 1) (slcells (ks ++ [⟨id, tx⟩])) ∧ Below base V w' := by
  have hb2 : Below V.heap.size V (V.alloc (.cells #[.string id, .string tx] 52)) := (Below.refl _ _).alloc (Nat.le_refl _) _
  have o0 : (V.alloc (.cells #[.string id, .string tx] 52)).ownsRow base 52 2 v m (slcells ks) := own_later hown hb2
  obtain ⟨v', w', h1, h2, h3⟩ := app_slots _ ty base v m _ o0 (some ⟨V.heap.size, 0, none⟩) [⟨id, tx⟩] 1 1 rfl (fun h => by cases h) (fun i hi => by
    obtain rfl : i = 0 := by simp at hi; omega
    exact ⟨V.heap.size, 0, rfl, by simp [go_sem], by simp [go_sem]⟩) (by omega) (by simp; omega)
  refine ⟨v', w', h1, ?_, (hb2.mono hb).grown h3 (by simp; omega) (fun k hk => (o0.lt k hk).1)⟩
  rw [slcells_app]
  exact h2
set_option maxHeartbeats 2000000 in
theorem rdecode_unfit (s : ByteArray) (h : fitM (by' s) = false) (hz : s.size ≤ 140737488355328) (w : World) :
    Calls Try.prog 18 #[.string s] w fun e w' => e = .returned (.tuple #[mv 0 0 0 ⟨#[]⟩ ⟨#[]⟩ none 0 0 none 0 0, .int .i64 110]) ∧ Below w.heap.size w w' := by
  by_cases h0 : s.size = 0
  · obtain rfl := nil_of h0
    unfold e0
    clear h h0 hz
    go_enter Try.func18, Try.ntmps18
    go_wp2
    refine bodyPost_ret (v := .tuple #[mv 0 0 0 ⟨#[]⟩ ⟨#[]⟩ none 0 0 none 0 0, .int .i64 110]) ?_ rfl ⟨rfl, (Below.refl _ _).alloc (Nat.le_refl _) _⟩
    exact res_rdecode _ _ w.heap.size _ _ _ _ _ _ _ _ _ _ _ _ (by kernel_rfl) (by kernel_rfl) (MlAt.new _ _ _ _ _ _ _ _ _ _ _ _ _)
  · have z1 : (s.toList == []) = false := by rw [size_toList, decide_eq_false h0]
    have g0 : 0 < s.size := by omega
    have g0' : (0 : Int) < (s.size : Int) := by omega
    have b0 := get_bn s 0 g0
    have t0 : bn (by' s) 0 < 256 := ((by' s).getD 0 0).toNat_lt
    obtain ⟨x, hx⟩ : ∃ x : Int, (s[0].toNat : Int) = x := ⟨_, rfl⟩
    have e0' : (bn (by' s) 0 : Int) = x := by rw [← b0]; exact hx
    have v0 : wrap64 x = x := by unfold wrap64; omega
    have v1 : IntKind.i64.wrap x = x := by rw [IntKind.wrap_i64]; omega
    have LN : ((s.size : Int) != (long x : Int)) = true := by
      rw [bne_iff_ne]
      intro z
      have : fitM (by' s) = true := by
        unfold fitM
        rw [decide_eq_false (fun q => h0 (by rw [← by_len, q]; rfl)), decide_eq_true (by rw [by_len, e0']; omega)]
        rfl
      rw [this] at h
      cases h
    have ne : ¬ (s.size : Int) = (long x : Int) := by simpa using LN
    clear h h0 hz b0 t0 e0'
    go_enter Try.func18, Try.ntmps18
    go_wp2_with fail
    refine Calls.mono (rlong_any x _) ?_
    rintro e w1 ⟨rfl, hw1⟩
    have hw2 := hw1.symm
    subst hw2
    clear hw1
    go_wp2
    refine bodyPost_ret (v := .tuple #[mv 0 0 0 ⟨#[]⟩ ⟨#[]⟩ none 0 0 none 0 0, .int .i64 110]) ?_ rfl ⟨rfl, (Below.refl _ _).alloc (Nat.le_refl _) _⟩
    exact res_rdecode _ _ w.heap.size _ _ _ _ _ _ _ _ _ _ _ _ (by kernel_rfl) (by kernel_rfl) (MlAt.new _ _ _ _ _ _ _ _ _ _ _ _ _)
set_option maxHeartbeats 2000000 in
theorem rdecode_1 (s : ByteArray) (hs : s.size = 505) (h1 : bn (by' s) 0 = 1) (w : World) :
    Calls Try.prog 18 #[.string s] w fun e w' => ∃ v, e = .returned (.tuple #[v, .int .i64 (deR (by' s))]) ∧ MlV w' v (dmR (by' s)) ∧ Below w.heap.size w w' := by
  obtain ⟨dr, rr⟩ := decR_packet h1 (by rw [by_len]; exact hs)
  have ED : deR (by' s) = 0 ∧ dmR (by' s) = ⟨1, 0, 0, mk ((by' s).drop 1), e0, [], []⟩ := by unfold deR dmR; rw [dr, rr]; exact ⟨rfl, rfl⟩
  rw [ED.1, ED.2]
  clear ED dr rr
  have z1 : (s.toList == []) = false := by rw [size_toList, decide_eq_false (by omega)]
  have g0 : 0 < s.size := by omega
  have b0 : (s[0].toNat : Int) = 1 := by rw [get_bn s 0 g0, h1]; rfl
  obtain ⟨y, hy⟩ : ∃ y, mk ((by' s).drop 1) = y := ⟨_, rfl⟩
  have ey : s.extract 1 505 = y := by rw [ext_tail _ _ _ (by omega), hy]
  rw [hy]
  clear hy h1
  go_enter Try.func18, Try.ntmps18
  go_wp2_with fail
  refine Calls.mono (rlong_any 1 _) ?_
  rintro e w1 ⟨rfl, hw1⟩
  have hw2 := hw1.symm
  subst hw2
  clear hw1
  rw [show ((long 1 : Nat) : Int) = 505 from rfl]
  go_wp2
  refine bodyPost_ret (v := .tuple #[mv 1 0 0 y ⟨#[]⟩ none 0 0 none 0 0, .int .i64 0]) ?_ rfl ⟨mv 1 0 0 y ⟨#[]⟩ none 0 0 none 0 0, rfl, ⟨none, 0, 0, none, 0, 0, rfl, Lists.zero _⟩, ?_⟩
  · refine res_rdecode _ _ w.heap.size _ _ _ _ _ _ _ _ _ _ _ _ (by kernel_rfl) (by kernel_rfl) ?_
    exact (MlAt.new w _ _ _ _ _ _ _ _ _ _ _ _).later ((Below.refl _ _).alloc (Nat.le_refl _) _)
  · exact ((Below.refl _ w).alloc (Nat.le_refl _) _).alloc (by simp) _
theorem own_other {w : World} {b : Nat} {e : TypeId} {size : Nat} {v : Value} {n : Nat} {xs : List Value} (h : w.ownsRow b e size v n xs) {p : Addr} (hp : p.block < b) (u : Value) : (w.setCell p u).ownsRow b e size v n xs := by
  refine ⟨h.1, ?_⟩
  rcases h.2 with hn | ⟨g, cap, cur, rfl, hbg, hh, rest⟩
  · exact .inl hn
  · exact .inr ⟨g, cap, cur, rfl, hbg, (Below.heap_setCell w p u g (by omega)).trans hh, rest⟩
theorem MlAt.put4 {w : World} {b : Nat} {k u q : Int} {t g : ByteArray} {a : Option Addr} {n c : Nat} {a2 : Option Addr} {n2 c2 : Nat} (h : MlAt w b k u q t g a n c a2 n2 c2) (g' : ByteArray) : MlAt (w.setCell ⟨b, 4, none⟩ (.string g')) b k u q t g' a n c a2 n2 c2 := by
  obtain ⟨f, h0, h1, h2, h3, h4, h5, h6⟩ := h
  exact ⟨fun o => by simp [go_sem, f], by simp [go_sem, h0], by simp [go_sem, h1], by simp [go_sem, h2], by simp [go_sem, h3], by simp [go_sem, h4], by simp [go_sem, h5], by simp [go_sem, h6]⟩
def opx0 : Oper := { dst := some 34, op := Go.Op.move (Go.Operand.tmp 0), type := 9, pos := "ref.go:136", after := #[], guard := none }
def opx1 : Oper := { dst := some 35, op := Go.Op.index 9 (Go.Operand.tmp 34) (Go.Operand.const (Go.Value.int Go.IntKind.i64 2)), type := 5, pos := "ref.go:136", after := #[{ on := 0, ground := Go.Ground.data }], guard := none }
def opx2 : Oper := { dst := some 36, op := Go.Op.convert 5 3 (Go.Operand.tmp 35), type := 3, pos := "ref.go:136", after := #[{ on := 1, ground := Go.Ground.data }], guard := none }
def opx3 : Oper := { dst := some 37, op := Go.Op.binOp Go.BinOp.shl 3 (Go.Operand.tmp 36) (Go.Operand.const (Go.Value.int Go.IntKind.u64 24)) 61, type := 3, pos := "ref.go:136", after := #[{ on := 2, ground := Go.Ground.data }], guard := none }
def opx4 : Oper := { dst := some 38, op := Go.Op.move (Go.Operand.tmp 0), type := 9, pos := "ref.go:136", after := #[], guard := none }
def opx5 : Oper := { dst := some 39, op := Go.Op.index 9 (Go.Operand.tmp 38) (Go.Operand.const (Go.Value.int Go.IntKind.i64 3)), type := 5, pos := "ref.go:136", after := #[{ on := 4, ground := Go.Ground.data }], guard := none }
def opx6 : Oper := { dst := some 40, op := Go.Op.convert 5 3 (Go.Operand.tmp 39), type := 3, pos := "ref.go:136", after := #[{ on := 5, ground := Go.Ground.data }], guard := none }
def opx7 : Oper := { dst := some 41, op := Go.Op.binOp Go.BinOp.shl 3 (Go.Operand.tmp 40) (Go.Operand.const (Go.Value.int Go.IntKind.u64 16)) 61, type := 3, pos := "ref.go:136", after := #[{ on := 6, ground := Go.Ground.data }], guard := none }
def opx8 : Oper := { dst := some 42, op := Go.Op.binOp Go.BinOp.add 3 (Go.Operand.tmp 37) (Go.Operand.tmp 41) 3, type := 3, pos := "ref.go:136", after := #[{ on := 3, ground := Go.Ground.data }, { on := 7, ground := Go.Ground.data }], guard := none }
def opx9 : Oper := { dst := some 43, op := Go.Op.move (Go.Operand.tmp 0), type := 9, pos := "ref.go:136", after := #[], guard := none }
def opx10 : Oper := { dst := some 44, op := Go.Op.index 9 (Go.Operand.tmp 43) (Go.Operand.const (Go.Value.int Go.IntKind.i64 4)), type := 5, pos := "ref.go:136", after := #[{ on := 9, ground := Go.Ground.data }], guard := none }
def opx11 : Oper := { dst := some 45, op := Go.Op.convert 5 3 (Go.Operand.tmp 44), type := 3, pos := "ref.go:136", after := #[{ on := 10, ground := Go.Ground.data }], guard := none }
def opx12 : Oper := { dst := some 46, op := Go.Op.binOp Go.BinOp.shl 3 (Go.Operand.tmp 45) (Go.Operand.const (Go.Value.int Go.IntKind.u64 8)) 61, type := 3, pos := "ref.go:136", after := #[{ on := 11, ground := Go.Ground.data }], guard := none }
def opx13 : Oper := { dst := some 47, op := Go.Op.binOp Go.BinOp.add 3 (Go.Operand.tmp 42) (Go.Operand.tmp 46) 3, type := 3, pos := "ref.go:136", after := #[{ on := 8, ground := Go.Ground.data }, { on := 12, ground := Go.Ground.data }], guard := none }
def opx14 : Oper := { dst := some 48, op := Go.Op.move (Go.Operand.tmp 0), type := 9, pos := "ref.go:136", after := #[], guard := none }
def opx15 : Oper := { dst := some 49, op := Go.Op.index 9 (Go.Operand.tmp 48) (Go.Operand.const (Go.Value.int Go.IntKind.i64 5)), type := 5, pos := "ref.go:136", after := #[{ on := 14, ground := Go.Ground.data }], guard := none }
def opx16 : Oper := { dst := some 50, op := Go.Op.convert 5 3 (Go.Operand.tmp 49), type := 3, pos := "ref.go:136", after := #[{ on := 15, ground := Go.Ground.data }], guard := none }
def opx17 : Oper := { dst := some 51, op := Go.Op.binOp Go.BinOp.add 3 (Go.Operand.tmp 47) (Go.Operand.tmp 50) 3, type := 3, pos := "ref.go:136", after := #[{ on := 13, ground := Go.Ground.data }, { on := 16, ground := Go.Ground.data }], guard := none }
def opx18 : Oper := { dst := some 52, op := Go.Op.fieldAddr 25 (Go.Operand.tmp 4) 2, type := 0, pos := "ref.go:136", after := #[{ on := 0, ground := Go.Ground.phase }, { on := 1, ground := Go.Ground.phase }, { on := 2, ground := Go.Ground.phase }, { on := 3, ground := Go.Ground.phase }, { on := 4, ground := Go.Ground.phase }, { on := 5, ground := Go.Ground.phase }, { on := 6, ground := Go.Ground.phase }, { on := 7, ground := Go.Ground.phase }, { on := 8, ground := Go.Ground.phase }, { on := 9, ground := Go.Ground.phase }, { on := 10, ground := Go.Ground.phase }, { on := 11, ground := Go.Ground.phase }, { on := 12, ground := Go.Ground.phase }, { on := 13, ground := Go.Ground.phase }, { on := 14, ground := Go.Ground.phase }, { on := 15, ground := Go.Ground.phase }, { on := 16, ground := Go.Ground.phase }, { on := 17, ground := Go.Ground.phase }], guard := none }
def opx19 : Oper := { dst := none, op := Go.Op.store 3 (Go.Operand.tmp 52) (Go.Operand.tmp 51), type := 0, pos := "ref.go:136", after := #[{ on := 18, ground := Go.Ground.data }, { on := 17, ground := Go.Ground.data }, { on := 0, ground := Go.Ground.phase }, { on := 1, ground := Go.Ground.phase }, { on := 2, ground := Go.Ground.phase }, { on := 3, ground := Go.Ground.phase }, { on := 4, ground := Go.Ground.phase }, { on := 5, ground := Go.Ground.phase }, { on := 6, ground := Go.Ground.phase }, { on := 7, ground := Go.Ground.phase }, { on := 8, ground := Go.Ground.phase }, { on := 9, ground := Go.Ground.phase }, { on := 10, ground := Go.Ground.phase }, { on := 11, ground := Go.Ground.phase }, { on := 12, ground := Go.Ground.phase }, { on := 13, ground := Go.Ground.phase }, { on := 14, ground := Go.Ground.phase }, { on := 15, ground := Go.Ground.phase }, { on := 16, ground := Go.Ground.phase }, { on := 17, ground := Go.Ground.phase }], guard := none }
def opy0 : Oper := { dst := some 75, op := Go.Op.fieldAddr 25 (Go.Operand.tmp 4) 6, type := 0, pos := "ref.go:144", after := #[], guard := none }
def opy1 : Oper := { dst := some 76, op := Go.Op.load 23 (Go.Operand.tmp 75), type := 23, pos := "ref.go:144", after := #[{ on := 0, ground := Go.Ground.data }], guard := none }
def opy2 : Oper := { dst := some 77, op := Go.Op.move (Go.Operand.tmp 5), type := 9, pos := "ref.go:144", after := #[], guard := none }
def opy3 : Oper := { dst := some 78, op := Go.Op.slice 9 (Go.Operand.tmp 77) none (some (Go.Operand.const (Go.Value.int Go.IntKind.i64 16))) none, type := 9, pos := "ref.go:144", after := #[{ on := 2, ground := Go.Ground.data }], guard := none }
def opy4 : Oper := { dst := some 79, op := Go.Op.buildSlice 23 1 #[(0, Go.Operand.tmp 78)], type := 23, pos := "ref.go:144", after := #[{ on := 3, ground := Go.Ground.data }], guard := none }
def opy5 : Oper := { dst := some 80, op := Go.Op.call { callee := Go.Callee.builtin Go.Builtin.append, args := #[Go.Operand.tmp 76, Go.Operand.tmp 79], argTypes := #[23, 23] }, type := 23, pos := "ref.go:144", after := #[{ on := 1, ground := Go.Ground.data }, { on := 4, ground := Go.Ground.data }], guard := none }
def opy6 : Oper := { dst := some 81, op := Go.Op.fieldAddr 25 (Go.Operand.tmp 4) 6, type := 0, pos := "ref.go:144", after := #[{ on := 0, ground := Go.Ground.phase }, { on := 1, ground := Go.Ground.phase }, { on := 2, ground := Go.Ground.phase }, { on := 3, ground := Go.Ground.phase }, { on := 4, ground := Go.Ground.phase }, { on := 5, ground := Go.Ground.phase }], guard := none }
def opy7 : Oper := { dst := none, op := Go.Op.store 23 (Go.Operand.tmp 81) (Go.Operand.tmp 80), type := 0, pos := "ref.go:144", after := #[{ on := 6, ground := Go.Ground.data }, { on := 5, ground := Go.Ground.data }, { on := 5, ground := Go.Ground.chain }, { on := 0, ground := Go.Ground.phase }, { on := 1, ground := Go.Ground.phase }, { on := 2, ground := Go.Ground.phase }, { on := 3, ground := Go.Ground.phase }, { on := 4, ground := Go.Ground.phase }, { on := 5, ground := Go.Ground.phase }], guard := none }
set_option maxHeartbeats 8000000 in
theorem rdecode_2 (s : ByteArray) (hs : s.size = 38) (h1 : bn (by' s) 0 = 2) (w : World) :
    Calls Try.prog 18 #[.string s] w fun e w' => ∃ v, e = .returned (.tuple #[v, .int .i64 (deR (by' s))]) ∧ MlV w' v (dmR (by' s)) ∧ Below w.heap.size w w' := by
  have z1 : (s.toList == []) = false := by rw [size_toList, decide_eq_false (by omega)]
  have DR : Hid (decR (by' s) = (okB (rdR (by' s)) && decide (txt (rdR (by' s)) = by' s))) := decR_of (by
    unfold fitM
    rw [h1, by_len, hs, decide_eq_false (fun z => by have := by_len s; rw [z, hs] at this; cases this)]
    rfl)
  have g0 : 0 < s.size := by omega
  have g1 : 1 < s.size := by omega
  have g2 : 2 < s.size := by omega
  have g3 : 3 < s.size := by omega
  have g4 : 4 < s.size := by omega
  have g5 : 5 < s.size := by omega
  have b0 : (s[0].toNat : Int) = 2 := by rw [get_bn s 0 g0, h1]; rfl
  have b1 := get_bn s 1 g1
  have t1 : bn (by' s) 1 < 256 := ((by' s).getD 1 0).toNat_lt
  have b2 := get_bn s 2 g2
  have t2 : bn (by' s) 2 < 256 := ((by' s).getD 2 0).toNat_lt
  have b3 := get_bn s 3 g3
  have t3 : bn (by' s) 3 < 256 := ((by' s).getD 3 0).toNat_lt
  have b4 := get_bn s 4 g4
  have t4 : bn (by' s) 4 < 256 := ((by' s).getD 4 0).toNat_lt
  have b5 := get_bn s 5 g5
  have t5 : bn (by' s) 5 < 256 := ((by' s).getD 5 0).toNat_lt
  obtain ⟨Q, hQ⟩ : ∃ Q : Int, (rSeq (by' s) : Int) = Q := ⟨_, rfl⟩
  obtain ⟨u, hu⟩ : ∃ u : Int, (bn (by' s) 1 : Int) = u := ⟨_, rfl⟩
  obtain ⟨x2, hx2⟩ : ∃ x : Int, (s[2].toNat : Int) = x := ⟨_, rfl⟩
  obtain ⟨x3, hx3⟩ : ∃ x : Int, (s[3].toNat : Int) = x := ⟨_, rfl⟩
  obtain ⟨x4, hx4⟩ : ∃ x : Int, (s[4].toNat : Int) = x := ⟨_, rfl⟩
  obtain ⟨x5, hx5⟩ : ∃ x : Int, (s[5].toNat : Int) = x := ⟨_, rfl⟩
  rw [hu] at b1
  have r2 : 0 ≤ x2 ∧ x2 < 256 := by rw [← hx2, b2]; omega
  have r3 : 0 ≤ x3 ∧ x3 < 256 := by rw [← hx3, b3]; omega
  have r4 : 0 ≤ x4 ∧ x4 < 256 := by rw [← hx4, b4]; omega
  have r5 : 0 ≤ x5 ∧ x5 < 256 := by rw [← hx5, b5]; omega
  have hQ2 : x2 * 16777216 + x3 * 65536 + x4 * 256 + x5 = Q := by rw [← hQ, ← hx2, ← hx3, ← hx4, ← hx5, b2, b3, b4, b5]; unfold rSeq; omega
  have r1 : 0 ≤ u ∧ u < 256 := by rw [← hu]; omega
  obtain ⟨y1, hy1⟩ : ∃ y : Int, x2 * 16777216 + x3 * 65536 = y := ⟨_, rfl⟩
  obtain ⟨y2, hy2⟩ : ∃ y : Int, y1 + x4 * 256 = y := ⟨_, rfl⟩
  have m2 : IntKind.i64.wrap (x2 * 16777216) = x2 * 16777216 := by rw [IntKind.wrap_i64]; omega
  have m3 : IntKind.i64.wrap (x3 * 65536) = x3 * 65536 := by rw [IntKind.wrap_i64]; omega
  have m4 : IntKind.i64.wrap (x4 * 256) = x4 * 256 := by rw [IntKind.wrap_i64]; omega
  have n1' : IntKind.i64.wrap (x2 * 16777216 + x3 * 65536) = y1 := by rw [IntKind.wrap_i64]; omega
  have n2' : IntKind.i64.wrap (y1 + x4 * 256) = y2 := by rw [IntKind.wrap_i64]; omega
  have n3' : IntKind.i64.wrap (y2 + x5) = Q := by rw [IntKind.wrap_i64]; omega
  have v2 : IntKind.i64.wrap x2 = x2 := by rw [IntKind.wrap_i64]; omega
  have v3 : IntKind.i64.wrap x3 = x3 := by rw [IntKind.wrap_i64]; omega
  have v4 : IntKind.i64.wrap x4 = x4 := by rw [IntKind.wrap_i64]; omega
  have v5 : IntKind.i64.wrap x5 = x5 := by rw [IntKind.wrap_i64]; omega
  have v1 : wrap64 u = u := by unfold wrap64; omega
  obtain ⟨S, hS⟩ : ∃ S, s.extract 6 38 = S := ⟨_, rfl⟩
  have SS : S.size = 32 := by rw [← hS, ext_size _ _ _ (by omega) (by omega)]
  have SB : by' S = (by' s).drop 6 := by rw [← hS, ext_tail _ _ _ (by omega), by_mk]
  obtain ⟨TG, hTG⟩ : ∃ y, S.extract 0 32 = y := ⟨_, rfl⟩
  obtain ⟨R2, hR2⟩ : ∃ z, S.extract 32 32 = z := ⟨_, rfl⟩
  have etg : mk ((by' S).take 32) = TG := by rw [← ext_head]; exact hTG
  have er2 : by' R2 = (by' s).drop 38 := by rw [← hR2, ext_tail _ _ _ (by omega), by_mk, SB, List.drop_drop]
  have sr2 : R2.size = 0 := by rw [← hR2, ext_size _ _ _ (by omega) (by omega)]
  have HM : Hid (rdR (by' s) = ⟨2, u, Q, ⟨#[]⟩, TG, [], []⟩) := by
    show _ = _
    unfold rdR
    rw [rdW_2 _ h1, hu, hQ, ← etg, ← SB, List.take_of_length_le (by rw [by_len, SS]; exact Nat.le_refl _)]; rfl
  clear SB hQ hu h1 b2 b3 b4 b5 t1 t2 t3 t4 t5 r2 r3 r4 r5 r1 hQ2 hy1 hy2 etg er2
  go_enter Try.func18, Try.ntmps18
  go_wp2_with fail
  refine Calls.mono (rlong_any 2 _) ?_
  rintro e w1 ⟨rfl, hw1⟩
  have hw2 := hw1.symm
  subst hw2
  clear hw1
  rw [show ((long 2 : Nat) : Int) = 38 from rfl]
  go_wp2_with fail
  obtain ⟨X, hX⟩ : ∃ X, (w.alloc (.cells #[.int .i64 0, .int .i64 0, .int .i64 0, .string ⟨#[]⟩, .string ⟨#[]⟩, .slice none 0 0, .slice none 0 0] 25)).alloc (.cells #[.int .i64 2, .int .i64 u, .int .i64 0, .string ⟨#[]⟩, .string ⟨#[]⟩, .slice none 0 0, .slice none 0 0] 25) = X := ⟨_, rfl⟩
  rw [hX]
  have F0 : Hid (Below w.heap.size w X ∧ Box2 X w.heap.size 2 u 0 ⟨#[]⟩ ⟨#[]⟩ none 0 0 none 0 0) := by
    rw [← hX]
    exact ⟨((Below.refl _ w).alloc (Nat.le_refl _) _).alloc (by simp) _, box2_new _ _ _ _⟩
  clear hX
  obtain ⟨⟨f, p0, p1, p2, p3, p4, p5, p6⟩, f', q0, q1, q2, q3, q4, q5, q6⟩ := F0.out.2
  have n1 : ¬ w.heap.size + 1 = w.heap.size := by omega
  have n2 : ¬ w.heap.size = w.heap.size + 1 := by omega
  refine wp_region_noPanic ?_
  refine wp_region_held_drew (S := fun _ => True) (by kernel_rfl) (trivial) (fun hHeld => ?_)
  refine wpAnyH_take (i := 0) (oi := opx0) (v := ?_) rfl (by kernel_rfl) (by kernel_rfl) (by kernel_rfl) (fun _ _ _ h => h) (Or.inl ⟨by rfl, ?_⟩) (by assumption) ?_
  rotate_left
  · intro w' hSw
    clear hSw
    unfold opx0
    first
    | (go_simp; done)
    | (go_simp; with_reducible rfl)
  simp only [opx0, Act.put, List.setIfInBounds_toArray, List.set_cons_zero, List.set_cons_succ]
  refine wpAnyH_take (i := 1) (oi := opx1) (v := ?_) rfl (by kernel_rfl) (by kernel_rfl) (by kernel_rfl) (fun _ _ _ h => h) (Or.inl ⟨by rfl, ?_⟩) (by assumption) ?_
  rotate_left
  · intro w' hSw
    clear hSw
    unfold opx1
    first
    | (go_simp; done)
    | (go_simp; with_reducible rfl)
  simp only [opx1, Act.put, List.setIfInBounds_toArray, List.set_cons_zero, List.set_cons_succ]
  refine wpAnyH_take (i := 2) (oi := opx2) (v := ?_) rfl (by kernel_rfl) (by kernel_rfl) (by kernel_rfl) (fun _ _ _ h => h) (Or.inl ⟨by rfl, ?_⟩) (by assumption) ?_
  rotate_left
  · intro w' hSw
    clear hSw
    unfold opx2
    first
    | (go_simp; done)
    | (go_simp; with_reducible rfl)
  simp only [opx2, Act.put, List.setIfInBounds_toArray, List.set_cons_zero, List.set_cons_succ]
  refine wpAnyH_take (i := 3) (oi := opx3) (v := ?_) rfl (by kernel_rfl) (by kernel_rfl) (by kernel_rfl) (fun _ _ _ h => h) (Or.inl ⟨by rfl, ?_⟩) (by assumption) ?_
  rotate_left
  · intro w' hSw
    clear hSw
    unfold opx3
    first
    | (go_simp; done)
    | (go_simp; with_reducible rfl)
  simp only [opx3, Act.put, List.setIfInBounds_toArray, List.set_cons_zero, List.set_cons_succ]
  refine wpAnyH_take (i := 4) (oi := opx4) (v := ?_) rfl (by kernel_rfl) (by kernel_rfl) (by kernel_rfl) (fun _ _ _ h => h) (Or.inl ⟨by rfl, ?_⟩) (by assumption) ?_
  rotate_left
  · intro w' hSw
    clear hSw
    unfold opx4
    first
    | (go_simp; done)
    | (go_simp; with_reducible rfl)
  simp only [opx4, Act.put, List.setIfInBounds_toArray, List.set_cons_zero, List.set_cons_succ]
  refine wpAnyH_take (i := 5) (oi := opx5) (v := ?_) rfl (by kernel_rfl) (by kernel_rfl) (by kernel_rfl) (fun _ _ _ h => h) (Or.inl ⟨by rfl, ?_⟩) (by assumption) ?_
  rotate_left
  · intro w' hSw
    clear hSw
    unfold opx5
    first
    | (go_simp; done)
    | (go_simp; with_reducible rfl)
  simp only [opx5, Act.put, List.setIfInBounds_toArray, List.set_cons_zero, List.set_cons_succ]
  refine wpAnyH_take (i := 6) (oi := opx6) (v := ?_) rfl (by kernel_rfl) (by kernel_rfl) (by kernel_rfl) (fun _ _ _ h => h) (Or.inl ⟨by rfl, ?_⟩) (by assumption) ?_
  rotate_left
  · intro w' hSw
    clear hSw
    unfold opx6
    first
    | (go_simp; done)
    | (go_simp; with_reducible rfl)
  simp only [opx6, Act.put, List.setIfInBounds_toArray, List.set_cons_zero, List.set_cons_succ]
  refine wpAnyH_take (i := 7) (oi := opx7) (v := ?_) rfl (by kernel_rfl) (by kernel_rfl) (by kernel_rfl) (fun _ _ _ h => h) (Or.inl ⟨by rfl, ?_⟩) (by assumption) ?_
  rotate_left
  · intro w' hSw
    clear hSw
    unfold opx7
    first
    | (go_simp; done)
    | (go_simp; with_reducible rfl)
  simp only [opx7, Act.put, List.setIfInBounds_toArray, List.set_cons_zero, List.set_cons_succ]
  refine wpAnyH_take (i := 8) (oi := opx8) (v := ?_) rfl (by kernel_rfl) (by kernel_rfl) (by kernel_rfl) (fun _ _ _ h => h) (Or.inl ⟨by rfl, ?_⟩) (by assumption) ?_
  rotate_left
  · intro w' hSw
    clear hSw
    unfold opx8
    first
    | (go_simp; done)
    | (go_simp; with_reducible rfl)
  simp only [opx8, Act.put, List.setIfInBounds_toArray, List.set_cons_zero, List.set_cons_succ]
  refine wpAnyH_take (i := 9) (oi := opx9) (v := ?_) rfl (by kernel_rfl) (by kernel_rfl) (by kernel_rfl) (fun _ _ _ h => h) (Or.inl ⟨by rfl, ?_⟩) (by assumption) ?_
  rotate_left
  · intro w' hSw
    clear hSw
    unfold opx9
    first
    | (go_simp; done)
    | (go_simp; with_reducible rfl)
  simp only [opx9, Act.put, List.setIfInBounds_toArray, List.set_cons_zero, List.set_cons_succ]
  refine wpAnyH_take (i := 10) (oi := opx10) (v := ?_) rfl (by kernel_rfl) (by kernel_rfl) (by kernel_rfl) (fun _ _ _ h => h) (Or.inl ⟨by rfl, ?_⟩) (by assumption) ?_
  rotate_left
  · intro w' hSw
    clear hSw
    unfold opx10
    first
    | (go_simp; done)
    | (go_simp; with_reducible rfl)
  simp only [opx10, Act.put, List.setIfInBounds_toArray, List.set_cons_zero, List.set_cons_succ]
  refine wpAnyH_take (i := 11) (oi := opx11) (v := ?_) rfl (by kernel_rfl) (by kernel_rfl) (by kernel_rfl) (fun _ _ _ h => h) (Or.inl ⟨by rfl, ?_⟩) (by assumption) ?_
  rotate_left
  · intro w' hSw
    clear hSw
    unfold opx11
    first
    | (go_simp; done)
    | (go_simp; with_reducible rfl)
  simp only [opx11, Act.put, List.setIfInBounds_toArray, List.set_cons_zero, List.set_cons_succ]
  refine wpAnyH_take (i := 12) (oi := opx12) (v := ?_) rfl (by kernel_rfl) (by kernel_rfl) (by kernel_rfl) (fun _ _ _ h => h) (Or.inl ⟨by rfl, ?_⟩) (by assumption) ?_
  rotate_left
  · intro w' hSw
    clear hSw
    unfold opx12
    first
    | (go_simp; done)
    | (go_simp; with_reducible rfl)
  simp only [opx12, Act.put, List.setIfInBounds_toArray, List.set_cons_zero, List.set_cons_succ]
  refine wpAnyH_take (i := 13) (oi := opx13) (v := ?_) rfl (by kernel_rfl) (by kernel_rfl) (by kernel_rfl) (fun _ _ _ h => h) (Or.inl ⟨by rfl, ?_⟩) (by assumption) ?_
  rotate_left
  · intro w' hSw
    clear hSw
    unfold opx13
    first
    | (go_simp; done)
    | (go_simp; with_reducible rfl)
  simp only [opx13, Act.put, List.setIfInBounds_toArray, List.set_cons_zero, List.set_cons_succ]
  refine wpAnyH_take (i := 14) (oi := opx14) (v := ?_) rfl (by kernel_rfl) (by kernel_rfl) (by kernel_rfl) (fun _ _ _ h => h) (Or.inl ⟨by rfl, ?_⟩) (by assumption) ?_
  rotate_left
  · intro w' hSw
    clear hSw
    unfold opx14
    first
    | (go_simp; done)
    | (go_simp; with_reducible rfl)
  simp only [opx14, Act.put, List.setIfInBounds_toArray, List.set_cons_zero, List.set_cons_succ]
  refine wpAnyH_take (i := 15) (oi := opx15) (v := ?_) rfl (by kernel_rfl) (by kernel_rfl) (by kernel_rfl) (fun _ _ _ h => h) (Or.inl ⟨by rfl, ?_⟩) (by assumption) ?_
  rotate_left
  · intro w' hSw
    clear hSw
    unfold opx15
    first
    | (go_simp; done)
    | (go_simp; with_reducible rfl)
  simp only [opx15, Act.put, List.setIfInBounds_toArray, List.set_cons_zero, List.set_cons_succ]
  refine wpAnyH_take (i := 16) (oi := opx16) (v := ?_) rfl (by kernel_rfl) (by kernel_rfl) (by kernel_rfl) (fun _ _ _ h => h) (Or.inl ⟨by rfl, ?_⟩) (by assumption) ?_
  rotate_left
  · intro w' hSw
    clear hSw
    unfold opx16
    first
    | (go_simp; done)
    | (go_simp; with_reducible rfl)
  simp only [opx16, Act.put, List.setIfInBounds_toArray, List.set_cons_zero, List.set_cons_succ]
  refine wpAnyH_take (i := 17) (oi := opx17) (v := ?_) rfl (by kernel_rfl) (by kernel_rfl) (by kernel_rfl) (fun _ _ _ h => h) (Or.inl ⟨by rfl, ?_⟩) (by assumption) ?_
  rotate_left
  · intro w' hSw
    clear hSw
    unfold opx17
    first
    | (go_simp; done)
    | (go_simp; with_reducible rfl)
  simp only [opx17, Act.put, List.setIfInBounds_toArray, List.set_cons_zero, List.set_cons_succ]
  refine wpAnyH_take (i := 18) (oi := opx18) (v := ?_) rfl (by kernel_rfl) (by kernel_rfl) (by kernel_rfl) (fun _ _ _ h => h) (Or.inl ⟨by rfl, ?_⟩) (by assumption) ?_
  rotate_left
  · intro w' hSw
    clear hSw
    unfold opx18
    first
    | (go_simp; done)
    | (go_simp; with_reducible rfl)
  simp only [opx18, Act.put, List.setIfInBounds_toArray, List.set_cons_zero, List.set_cons_succ]
  refine wpAnyH_ready (rs := [19]) (by kernel_rfl) (by simp) ?_
  refine AllReadyH.cons (o := opx19) rfl (fun KK hKK => ?_) AllReadyH.nil
  unfold opx19
  go_simp
  refine hKK.out _ _ trivial (fun hHeldZ => ?_)
  clear hKK KK
  refine wpAnyH_done (by kernel_rfl) ?_ _
  refine NoPanic.normal ?_
  obtain ⟨Y, hY⟩ : ∃ Y, (X.setCell ⟨w.heap.size + 1, 2, none⟩ (.int .i64 Q)).drew = Y := ⟨_, rfl⟩
  have F1 : Hid (Below w.heap.size w Y ∧ Box2 Y w.heap.size 2 u Q ⟨#[]⟩ ⟨#[]⟩ none 0 0 none 0 0) := by
    rw [← hY]
    exact ⟨(F0.out.1.setCell (p := ⟨w.heap.size + 1, 2, none⟩) (Nat.le_succ _) _).drew, Box2.later (w := X.setCell ⟨w.heap.size + 1, 2, none⟩ (.int .i64 Q)) ⟨F0.out.2.1.other (p := ⟨w.heap.size + 1, 2, none⟩) n1 _, F0.out.2.2.put2 Q⟩ (Below.refl _ _).drew⟩
  clear f p0 p1 p2 p3 p4 p5 p6 f' q0 q1 q2 q3 q4 q5 q6 F0 hHeldZ hHeld
  rw [hY]
  clear hY m2 m3 m4 n1' n2' n3' v2 v3 v4 v5 v1 hx2 hx3 hx4 hx5 b1 b0
  obtain ⟨⟨f, p0, p1, p2, p3, p4, p5, p6⟩, f', q0, q1, q2, q3, q4, q5, q6⟩ := F1.out.2
  go_wp2_with fail
  obtain ⟨Z, hZ⟩ : ∃ Z, Y.setCell ⟨w.heap.size + 1, 4, none⟩ (.string TG) = Z := ⟨_, rfl⟩
  have F2 : Hid (Below w.heap.size w Z ∧ Box2 Z w.heap.size 2 u Q ⟨#[]⟩ TG none 0 0 none 0 0) := by
    rw [← hZ]
    exact ⟨F1.out.1.setCell (p := ⟨w.heap.size + 1, 4, none⟩) (Nat.le_succ _) _, F1.out.2.1.other (p := ⟨w.heap.size + 1, 4, none⟩) n1 _, F1.out.2.2.put4 TG⟩
  rw [hZ]
  clear hZ
  clear f p0 p1 p2 p3 p4 p5 p6 f' q0 q1 q2 q3 q4 q5 q6
  go_loopw [5] (fun sv wr => sv = .string ByteArray.empty ∧ Hid (Below w.heap.size w wr ∧ Box2 wr w.heap.size 2 u Q ⟨#[]⟩ TG none 0 0 none 0 0)) (fun _ _ => 0)
  case atStart => exact ⟨rfl, F2.out⟩
  case round =>
    obtain ⟨rfl, I1⟩ := hrel
    obtain ⟨⟨f, p0, p1, p2, p3, p4, p5, p6⟩, f', q0, q1, q2, q3, q4, q5, q6⟩ := I1.out.2
    go_wp2
    clear f p0 p1 p2 p3 p4 p5 p6 f' q0 q1 q2 q3 q4 q5 q6
    go_loopw [5, 6] (fun sv _ wr => sv = .string ByteArray.empty ∧ Hid (Below w.heap.size w wr ∧ Box2 wr w.heap.size 2 u Q ⟨#[]⟩ TG none 0 0 none 0 0)) (fun _ _ _ => 0)
    case atStart => exact ⟨rfl, I1.out⟩
    case round =>
      obtain ⟨rfl, I2⟩ := hrel
      have I3 : Hid (Below w.heap.size w wr ∧ Box2 wr w.heap.size 2 u Q ⟨#[]⟩ TG none 0 0 none 0 0 ∧ Lists wr none 0 0 none 0 0 [] [] ∧ (∀ x : Addr, (none : Option Addr) = some x → w.heap.size ≠ x.block) ∧ ∀ x : Addr, (none : Option Addr) = some x → w.heap.size ≠ x.block) := ⟨I2.out.1, I2.out.2, Lists.zero _, fun x h => (by cases h), fun x h => (by cases h)⟩
      obtain ⟨⟨f, p0, p1, p2, p3, p4, p5, p6⟩, f', q0, q1, q2, q3, q4, q5, q6⟩ := I3.out.2.1
      go_wp2_with fail
      refine Calls.mono (rcheck_any 2 u Q ⟨#[]⟩ TG none 0 0 none 0 0 [] [] wr I3.out.2.2.1) ?_
      rintro e x1 ⟨rfl, hc1⟩
      have G1 : Hid (Below w.heap.size w x1 ∧ Box2 x1 w.heap.size 2 u Q ⟨#[]⟩ TG none 0 0 none 0 0 ∧ Lists x1 none 0 0 none 0 0 [] []) := ⟨chain I3.out.1 hc1, I3.out.2.1.later hc1, I3.out.2.2.1.later hc1⟩
      clear hc1 f p0 p1 p2 p3 p4 p5 p6 f' q0 q1 q2 q3 q4 q5 q6
      obtain ⟨⟨f, p0, p1, p2, p3, p4, p5, p6⟩, f', q0, q1, q2, q3, q4, q5, q6⟩ := G1.out.2.1
      cases hok : okB ⟨2, u, Q, ⟨#[]⟩, TG, [], []⟩ with
      | false =>
        have ED : Hid (deR (by' s) = 110 ∧ dmR (by' s) = zm) := by
          have e : decR (by' s) = false := by rw [DR.out, HM.out]; show (okB ⟨2, u, Q, ⟨#[]⟩, TG, [], []⟩ && _) = _; rw [hok]; rfl
          unfold deR dmR
          rw [e]; exact ⟨rfl, rfl⟩
        rw [show chkE false = 110 from rfl]
        clear hok
        go_wp2
        refine bodyPost_ret (v := .tuple #[mv 0 0 0 ⟨#[]⟩ ⟨#[]⟩ none 0 0 none 0 0, .int .i64 110]) ?_ rfl ⟨mv 0 0 0 ⟨#[]⟩ ⟨#[]⟩ none 0 0 none 0 0, by rw [ED.out.1], by rw [ED.out.2]; exact MlV.zero _, below_whole G1.out.1 (Nat.le_refl _) _ _ _ _ _ _ _⟩
        exact res_rdecode _ _ w.heap.size _ _ _ _ _ _ _ _ _ _ _ _ (by kernel_rfl) (by kernel_rfl) (zero_store G1.out.2.1.1)
      | true =>
        rw [show chkE true = 0 from rfl]
        obtain ⟨T, hT⟩ : ∃ T, mk (txt ⟨2, u, Q, ⟨#[]⟩, TG, [], []⟩) = T := ⟨_, rfl⟩
        have TX : Hid (Calls Try.prog 28 #[mv 2 u Q ⟨#[]⟩ TG none 0 0 none 0 0] x1 fun e w' => e = .returned (.string T) ∧ Below x1.heap.size x1 w') := by
          rw [← hT]; exact rtext_any 2 u Q ⟨#[]⟩ TG none 0 0 none 0 0 [] [] hok x1 G1.out.2.2
        go_wp2_with fail
        refine Calls.mono TX.out ?_
        rintro e x2 ⟨rfl, hc2⟩
        have G2 : Hid (Below w.heap.size w x2 ∧ Box2 x2 w.heap.size 2 u Q ⟨#[]⟩ TG none 0 0 none 0 0 ∧ Lists x2 none 0 0 none 0 0 [] []) := ⟨chain G1.out.1 hc2, G1.out.2.1.later hc2, G1.out.2.2.later hc2⟩
        clear hc2 TX f p0 p1 p2 p3 p4 p5 p6 f' q0 q1 q2 q3 q4 q5 q6
        obtain ⟨⟨f, p0, p1, p2, p3, p4, p5, p6⟩, f', q0, q1, q2, q3, q4, q5, q6⟩ := G2.out.2.1
        by_cases hq : txt ⟨2, u, Q, ⟨#[]⟩, TG, [], []⟩ = by' s
        · have ED : Hid (deR (by' s) = 0 ∧ dmR (by' s) = ⟨2, u, Q, ⟨#[]⟩, TG, [], []⟩) := by
            have e : decR (by' s) = true := by rw [DR.out, HM.out]; show (okB ⟨2, u, Q, ⟨#[]⟩, TG, [], []⟩ && decide (txt ⟨2, u, Q, ⟨#[]⟩, TG, [], []⟩ = _)) = _; rw [hok, decide_eq_true hq]; rfl
            unfold deR dmR
            rw [e, HM.out]; exact ⟨rfl, rfl⟩
          have hTs : T = s := by rw [← hT, hq]; rfl
          clear hT hq hok
          have YY : (T.toList == s.toList) = true := by rw [hTs]; simp
          clear hTs
          go_wp2
          refine bodyPost_ret (v := .tuple #[mv 2 u Q ⟨#[]⟩ TG none 0 0 none 0 0, .int .i64 0]) ?_ rfl ⟨mv 2 u Q ⟨#[]⟩ TG none 0 0 none 0 0, by rw [ED.out.1], by rw [ED.out.2]; exact ⟨_, _, _, _, _, _, rfl, lists_whole G2.out.2.2 I3.out.2.2.2.1 I3.out.2.2.2.2 _ _ _ _ _ _ _⟩, below_whole G2.out.1 (Nat.le_refl _) _ _ _ _ _ _ _⟩
          exact res_rdecode _ _ w.heap.size _ _ _ _ _ _ _ _ _ _ _ _ (by kernel_rfl) (by kernel_rfl) (G2.out.2.1.1.whole _ _ _ _ _ _ _ _ _ _ _)
        · have ED : Hid (deR (by' s) = 110 ∧ dmR (by' s) = zm) := by
            have e : decR (by' s) = false := by rw [DR.out, HM.out]; show (okB ⟨2, u, Q, ⟨#[]⟩, TG, [], []⟩ && decide (txt ⟨2, u, Q, ⟨#[]⟩, TG, [], []⟩ = _)) = _; rw [hok, decide_eq_false hq]; rfl
            unfold deR dmR
            rw [e]; exact ⟨rfl, rfl⟩
          have NN : (T.toList == s.toList) = false := by
            rw [beq_eq_false_iff_ne, toList_by, toList_by, ← hT, by_mk]; exact hq
          clear hT hq hok
          go_wp2
          refine bodyPost_ret (v := .tuple #[mv 0 0 0 ⟨#[]⟩ ⟨#[]⟩ none 0 0 none 0 0, .int .i64 110]) ?_ rfl ⟨mv 0 0 0 ⟨#[]⟩ ⟨#[]⟩ none 0 0 none 0 0, by rw [ED.out.1], by rw [ED.out.2]; exact MlV.zero _, below_whole G2.out.1 (Nat.le_refl _) _ _ _ _ _ _ _⟩
          exact res_rdecode _ _ w.heap.size _ _ _ _ _ _ _ _ _ _ _ _ (by kernel_rfl) (by kernel_rfl) (zero_store G2.out.2.1.1)
set_option maxHeartbeats 8000000 in
theorem rdecode_4 (s : ByteArray) (hs : s.size = 102) (h1 : bn (by' s) 0 = 4) (w : World) :
    Calls Try.prog 18 #[.string s] w fun e w' => ∃ v, e = .returned (.tuple #[v, .int .i64 (deR (by' s))]) ∧ MlV w' v (dmR (by' s)) ∧ Below w.heap.size w w' := by
  have z1 : (s.toList == []) = false := by rw [size_toList, decide_eq_false (by omega)]
  have DR : Hid (decR (by' s) = (okB (rdR (by' s)) && decide (txt (rdR (by' s)) = by' s))) := decR_of (by
    unfold fitM
    rw [h1, by_len, hs, decide_eq_false (fun z => by have := by_len s; rw [z, hs] at this; cases this)]
    rfl)
  have g0 : 0 < s.size := by omega
  have g1 : 1 < s.size := by omega
  have g2 : 2 < s.size := by omega
  have g3 : 3 < s.size := by omega
  have g4 : 4 < s.size := by omega
  have g5 : 5 < s.size := by omega
  have b0 : (s[0].toNat : Int) = 4 := by rw [get_bn s 0 g0, h1]; rfl
  have b1 := get_bn s 1 g1
  have t1 : bn (by' s) 1 < 256 := ((by' s).getD 1 0).toNat_lt
  have b2 := get_bn s 2 g2
  have t2 : bn (by' s) 2 < 256 := ((by' s).getD 2 0).toNat_lt
  have b3 := get_bn s 3 g3
  have t3 : bn (by' s) 3 < 256 := ((by' s).getD 3 0).toNat_lt
  have b4 := get_bn s 4 g4
  have t4 : bn (by' s) 4 < 256 := ((by' s).getD 4 0).toNat_lt
  have b5 := get_bn s 5 g5
  have t5 : bn (by' s) 5 < 256 := ((by' s).getD 5 0).toNat_lt
  obtain ⟨Q, hQ⟩ : ∃ Q : Int, (rSeq (by' s) : Int) = Q := ⟨_, rfl⟩
  obtain ⟨u, hu⟩ : ∃ u : Int, (bn (by' s) 1 : Int) = u := ⟨_, rfl⟩
  obtain ⟨x2, hx2⟩ : ∃ x : Int, (s[2].toNat : Int) = x := ⟨_, rfl⟩
  obtain ⟨x3, hx3⟩ : ∃ x : Int, (s[3].toNat : Int) = x := ⟨_, rfl⟩
  obtain ⟨x4, hx4⟩ : ∃ x : Int, (s[4].toNat : Int) = x := ⟨_, rfl⟩
  obtain ⟨x5, hx5⟩ : ∃ x : Int, (s[5].toNat : Int) = x := ⟨_, rfl⟩
  rw [hu] at b1
  have r2 : 0 ≤ x2 ∧ x2 < 256 := by rw [← hx2, b2]; omega
  have r3 : 0 ≤ x3 ∧ x3 < 256 := by rw [← hx3, b3]; omega
  have r4 : 0 ≤ x4 ∧ x4 < 256 := by rw [← hx4, b4]; omega
  have r5 : 0 ≤ x5 ∧ x5 < 256 := by rw [← hx5, b5]; omega
  have hQ2 : x2 * 16777216 + x3 * 65536 + x4 * 256 + x5 = Q := by rw [← hQ, ← hx2, ← hx3, ← hx4, ← hx5, b2, b3, b4, b5]; unfold rSeq; omega
  have r1 : 0 ≤ u ∧ u < 256 := by rw [← hu]; omega
  obtain ⟨y1, hy1⟩ : ∃ y : Int, x2 * 16777216 + x3 * 65536 = y := ⟨_, rfl⟩
  obtain ⟨y2, hy2⟩ : ∃ y : Int, y1 + x4 * 256 = y := ⟨_, rfl⟩
  have m2 : IntKind.i64.wrap (x2 * 16777216) = x2 * 16777216 := by rw [IntKind.wrap_i64]; omega
  have m3 : IntKind.i64.wrap (x3 * 65536) = x3 * 65536 := by rw [IntKind.wrap_i64]; omega
  have m4 : IntKind.i64.wrap (x4 * 256) = x4 * 256 := by rw [IntKind.wrap_i64]; omega
  have n1' : IntKind.i64.wrap (x2 * 16777216 + x3 * 65536) = y1 := by rw [IntKind.wrap_i64]; omega
  have n2' : IntKind.i64.wrap (y1 + x4 * 256) = y2 := by rw [IntKind.wrap_i64]; omega
  have n3' : IntKind.i64.wrap (y2 + x5) = Q := by rw [IntKind.wrap_i64]; omega
  have v2 : IntKind.i64.wrap x2 = x2 := by rw [IntKind.wrap_i64]; omega
  have v3 : IntKind.i64.wrap x3 = x3 := by rw [IntKind.wrap_i64]; omega
  have v4 : IntKind.i64.wrap x4 = x4 := by rw [IntKind.wrap_i64]; omega
  have v5 : IntKind.i64.wrap x5 = x5 := by rw [IntKind.wrap_i64]; omega
  have v1 : wrap64 u = u := by unfold wrap64; omega
  obtain ⟨S, hS⟩ : ∃ S, s.extract 6 102 = S := ⟨_, rfl⟩
  have SS : S.size = 96 := by rw [← hS, ext_size _ _ _ (by omega) (by omega)]
  have SB : by' S = (by' s).drop 6 := by rw [← hS, ext_tail _ _ _ (by omega), by_mk]
  obtain ⟨TG, hTG⟩ : ∃ y, S.extract 0 32 = y := ⟨_, rfl⟩
  obtain ⟨R2, hR2⟩ : ∃ z, S.extract 32 96 = z := ⟨_, rfl⟩
  have etg : mk ((by' S).take 32) = TG := by rw [← ext_head]; exact hTG
  have er2 : by' R2 = (by' s).drop 38 := by rw [← hR2, ext_tail _ _ _ (by omega), by_mk, SB, List.drop_drop]
  have sr2 : R2.size = 64 := by rw [← hR2, ext_size _ _ _ (by omega) (by omega)]
  have HM : Hid (rdR (by' s) = ⟨4, u, Q, ⟨#[]⟩, TG, [], rIdsR 4 (by' R2)⟩) := by
    show _ = _
    unfold rdR
    rw [rdW_4 _ h1, hu, hQ, ← etg, ← SB, er2]; rfl
  clear SB hQ hu h1 b2 b3 b4 b5 t1 t2 t3 t4 t5 r2 r3 r4 r5 r1 hQ2 hy1 hy2 etg er2
  go_enter Try.func18, Try.ntmps18
  go_wp2_with fail
  refine Calls.mono (rlong_any 4 _) ?_
  rintro e w1 ⟨rfl, hw1⟩
  have hw2 := hw1.symm
  subst hw2
  clear hw1
  rw [show ((long 4 : Nat) : Int) = 102 from rfl]
  go_wp2_with fail
  obtain ⟨X, hX⟩ : ∃ X, (w.alloc (.cells #[.int .i64 0, .int .i64 0, .int .i64 0, .string ⟨#[]⟩, .string ⟨#[]⟩, .slice none 0 0, .slice none 0 0] 25)).alloc (.cells #[.int .i64 4, .int .i64 u, .int .i64 0, .string ⟨#[]⟩, .string ⟨#[]⟩, .slice none 0 0, .slice none 0 0] 25) = X := ⟨_, rfl⟩
  rw [hX]
  have F0 : Hid (Below w.heap.size w X ∧ Box2 X w.heap.size 4 u 0 ⟨#[]⟩ ⟨#[]⟩ none 0 0 none 0 0) := by
    rw [← hX]
    exact ⟨((Below.refl _ w).alloc (Nat.le_refl _) _).alloc (by simp) _, box2_new _ _ _ _⟩
  clear hX
  obtain ⟨⟨f, p0, p1, p2, p3, p4, p5, p6⟩, f', q0, q1, q2, q3, q4, q5, q6⟩ := F0.out.2
  have n1 : ¬ w.heap.size + 1 = w.heap.size := by omega
  have n2 : ¬ w.heap.size = w.heap.size + 1 := by omega
  refine wp_region_noPanic ?_
  refine wp_region_held_drew (S := fun _ => True) (by kernel_rfl) (trivial) (fun hHeld => ?_)
  refine wpAnyH_take (i := 0) (oi := opx0) (v := ?_) rfl (by kernel_rfl) (by kernel_rfl) (by kernel_rfl) (fun _ _ _ h => h) (Or.inl ⟨by rfl, ?_⟩) (by assumption) ?_
  rotate_left
  · intro w' hSw
    clear hSw
    unfold opx0
    first
    | (go_simp; done)
    | (go_simp; with_reducible rfl)
  simp only [opx0, Act.put, List.setIfInBounds_toArray, List.set_cons_zero, List.set_cons_succ]
  refine wpAnyH_take (i := 1) (oi := opx1) (v := ?_) rfl (by kernel_rfl) (by kernel_rfl) (by kernel_rfl) (fun _ _ _ h => h) (Or.inl ⟨by rfl, ?_⟩) (by assumption) ?_
  rotate_left
  · intro w' hSw
    clear hSw
    unfold opx1
    first
    | (go_simp; done)
    | (go_simp; with_reducible rfl)
  simp only [opx1, Act.put, List.setIfInBounds_toArray, List.set_cons_zero, List.set_cons_succ]
  refine wpAnyH_take (i := 2) (oi := opx2) (v := ?_) rfl (by kernel_rfl) (by kernel_rfl) (by kernel_rfl) (fun _ _ _ h => h) (Or.inl ⟨by rfl, ?_⟩) (by assumption) ?_
  rotate_left
  · intro w' hSw
    clear hSw
    unfold opx2
    first
    | (go_simp; done)
    | (go_simp; with_reducible rfl)
  simp only [opx2, Act.put, List.setIfInBounds_toArray, List.set_cons_zero, List.set_cons_succ]
  refine wpAnyH_take (i := 3) (oi := opx3) (v := ?_) rfl (by kernel_rfl) (by kernel_rfl) (by kernel_rfl) (fun _ _ _ h => h) (Or.inl ⟨by rfl, ?_⟩) (by assumption) ?_
  rotate_left
  · intro w' hSw
    clear hSw
    unfold opx3
    first
    | (go_simp; done)
    | (go_simp; with_reducible rfl)
  simp only [opx3, Act.put, List.setIfInBounds_toArray, List.set_cons_zero, List.set_cons_succ]
  refine wpAnyH_take (i := 4) (oi := opx4) (v := ?_) rfl (by kernel_rfl) (by kernel_rfl) (by kernel_rfl) (fun _ _ _ h => h) (Or.inl ⟨by rfl, ?_⟩) (by assumption) ?_
  rotate_left
  · intro w' hSw
    clear hSw
    unfold opx4
    first
    | (go_simp; done)
    | (go_simp; with_reducible rfl)
  simp only [opx4, Act.put, List.setIfInBounds_toArray, List.set_cons_zero, List.set_cons_succ]
  refine wpAnyH_take (i := 5) (oi := opx5) (v := ?_) rfl (by kernel_rfl) (by kernel_rfl) (by kernel_rfl) (fun _ _ _ h => h) (Or.inl ⟨by rfl, ?_⟩) (by assumption) ?_
  rotate_left
  · intro w' hSw
    clear hSw
    unfold opx5
    first
    | (go_simp; done)
    | (go_simp; with_reducible rfl)
  simp only [opx5, Act.put, List.setIfInBounds_toArray, List.set_cons_zero, List.set_cons_succ]
  refine wpAnyH_take (i := 6) (oi := opx6) (v := ?_) rfl (by kernel_rfl) (by kernel_rfl) (by kernel_rfl) (fun _ _ _ h => h) (Or.inl ⟨by rfl, ?_⟩) (by assumption) ?_
  rotate_left
  · intro w' hSw
    clear hSw
    unfold opx6
    first
    | (go_simp; done)
    | (go_simp; with_reducible rfl)
  simp only [opx6, Act.put, List.setIfInBounds_toArray, List.set_cons_zero, List.set_cons_succ]
  refine wpAnyH_take (i := 7) (oi := opx7) (v := ?_) rfl (by kernel_rfl) (by kernel_rfl) (by kernel_rfl) (fun _ _ _ h => h) (Or.inl ⟨by rfl, ?_⟩) (by assumption) ?_
  rotate_left
  · intro w' hSw
    clear hSw
    unfold opx7
    first
    | (go_simp; done)
    | (go_simp; with_reducible rfl)
  simp only [opx7, Act.put, List.setIfInBounds_toArray, List.set_cons_zero, List.set_cons_succ]
  refine wpAnyH_take (i := 8) (oi := opx8) (v := ?_) rfl (by kernel_rfl) (by kernel_rfl) (by kernel_rfl) (fun _ _ _ h => h) (Or.inl ⟨by rfl, ?_⟩) (by assumption) ?_
  rotate_left
  · intro w' hSw
    clear hSw
    unfold opx8
    first
    | (go_simp; done)
    | (go_simp; with_reducible rfl)
  simp only [opx8, Act.put, List.setIfInBounds_toArray, List.set_cons_zero, List.set_cons_succ]
  refine wpAnyH_take (i := 9) (oi := opx9) (v := ?_) rfl (by kernel_rfl) (by kernel_rfl) (by kernel_rfl) (fun _ _ _ h => h) (Or.inl ⟨by rfl, ?_⟩) (by assumption) ?_
  rotate_left
  · intro w' hSw
    clear hSw
    unfold opx9
    first
    | (go_simp; done)
    | (go_simp; with_reducible rfl)
  simp only [opx9, Act.put, List.setIfInBounds_toArray, List.set_cons_zero, List.set_cons_succ]
  refine wpAnyH_take (i := 10) (oi := opx10) (v := ?_) rfl (by kernel_rfl) (by kernel_rfl) (by kernel_rfl) (fun _ _ _ h => h) (Or.inl ⟨by rfl, ?_⟩) (by assumption) ?_
  rotate_left
  · intro w' hSw
    clear hSw
    unfold opx10
    first
    | (go_simp; done)
    | (go_simp; with_reducible rfl)
  simp only [opx10, Act.put, List.setIfInBounds_toArray, List.set_cons_zero, List.set_cons_succ]
  refine wpAnyH_take (i := 11) (oi := opx11) (v := ?_) rfl (by kernel_rfl) (by kernel_rfl) (by kernel_rfl) (fun _ _ _ h => h) (Or.inl ⟨by rfl, ?_⟩) (by assumption) ?_
  rotate_left
  · intro w' hSw
    clear hSw
    unfold opx11
    first
    | (go_simp; done)
    | (go_simp; with_reducible rfl)
  simp only [opx11, Act.put, List.setIfInBounds_toArray, List.set_cons_zero, List.set_cons_succ]
  refine wpAnyH_take (i := 12) (oi := opx12) (v := ?_) rfl (by kernel_rfl) (by kernel_rfl) (by kernel_rfl) (fun _ _ _ h => h) (Or.inl ⟨by rfl, ?_⟩) (by assumption) ?_
  rotate_left
  · intro w' hSw
    clear hSw
    unfold opx12
    first
    | (go_simp; done)
    | (go_simp; with_reducible rfl)
  simp only [opx12, Act.put, List.setIfInBounds_toArray, List.set_cons_zero, List.set_cons_succ]
  refine wpAnyH_take (i := 13) (oi := opx13) (v := ?_) rfl (by kernel_rfl) (by kernel_rfl) (by kernel_rfl) (fun _ _ _ h => h) (Or.inl ⟨by rfl, ?_⟩) (by assumption) ?_
  rotate_left
  · intro w' hSw
    clear hSw
    unfold opx13
    first
    | (go_simp; done)
    | (go_simp; with_reducible rfl)
  simp only [opx13, Act.put, List.setIfInBounds_toArray, List.set_cons_zero, List.set_cons_succ]
  refine wpAnyH_take (i := 14) (oi := opx14) (v := ?_) rfl (by kernel_rfl) (by kernel_rfl) (by kernel_rfl) (fun _ _ _ h => h) (Or.inl ⟨by rfl, ?_⟩) (by assumption) ?_
  rotate_left
  · intro w' hSw
    clear hSw
    unfold opx14
    first
    | (go_simp; done)
    | (go_simp; with_reducible rfl)
  simp only [opx14, Act.put, List.setIfInBounds_toArray, List.set_cons_zero, List.set_cons_succ]
  refine wpAnyH_take (i := 15) (oi := opx15) (v := ?_) rfl (by kernel_rfl) (by kernel_rfl) (by kernel_rfl) (fun _ _ _ h => h) (Or.inl ⟨by rfl, ?_⟩) (by assumption) ?_
  rotate_left
  · intro w' hSw
    clear hSw
    unfold opx15
    first
    | (go_simp; done)
    | (go_simp; with_reducible rfl)
  simp only [opx15, Act.put, List.setIfInBounds_toArray, List.set_cons_zero, List.set_cons_succ]
  refine wpAnyH_take (i := 16) (oi := opx16) (v := ?_) rfl (by kernel_rfl) (by kernel_rfl) (by kernel_rfl) (fun _ _ _ h => h) (Or.inl ⟨by rfl, ?_⟩) (by assumption) ?_
  rotate_left
  · intro w' hSw
    clear hSw
    unfold opx16
    first
    | (go_simp; done)
    | (go_simp; with_reducible rfl)
  simp only [opx16, Act.put, List.setIfInBounds_toArray, List.set_cons_zero, List.set_cons_succ]
  refine wpAnyH_take (i := 17) (oi := opx17) (v := ?_) rfl (by kernel_rfl) (by kernel_rfl) (by kernel_rfl) (fun _ _ _ h => h) (Or.inl ⟨by rfl, ?_⟩) (by assumption) ?_
  rotate_left
  · intro w' hSw
    clear hSw
    unfold opx17
    first
    | (go_simp; done)
    | (go_simp; with_reducible rfl)
  simp only [opx17, Act.put, List.setIfInBounds_toArray, List.set_cons_zero, List.set_cons_succ]
  refine wpAnyH_take (i := 18) (oi := opx18) (v := ?_) rfl (by kernel_rfl) (by kernel_rfl) (by kernel_rfl) (fun _ _ _ h => h) (Or.inl ⟨by rfl, ?_⟩) (by assumption) ?_
  rotate_left
  · intro w' hSw
    clear hSw
    unfold opx18
    first
    | (go_simp; done)
    | (go_simp; with_reducible rfl)
  simp only [opx18, Act.put, List.setIfInBounds_toArray, List.set_cons_zero, List.set_cons_succ]
  refine wpAnyH_ready (rs := [19]) (by kernel_rfl) (by simp) ?_
  refine AllReadyH.cons (o := opx19) rfl (fun KK hKK => ?_) AllReadyH.nil
  unfold opx19
  go_simp
  refine hKK.out _ _ trivial (fun hHeldZ => ?_)
  clear hKK KK
  refine wpAnyH_done (by kernel_rfl) ?_ _
  refine NoPanic.normal ?_
  obtain ⟨Y, hY⟩ : ∃ Y, (X.setCell ⟨w.heap.size + 1, 2, none⟩ (.int .i64 Q)).drew = Y := ⟨_, rfl⟩
  have F1 : Hid (Below w.heap.size w Y ∧ Box2 Y w.heap.size 4 u Q ⟨#[]⟩ ⟨#[]⟩ none 0 0 none 0 0) := by
    rw [← hY]
    exact ⟨(F0.out.1.setCell (p := ⟨w.heap.size + 1, 2, none⟩) (Nat.le_succ _) _).drew, Box2.later (w := X.setCell ⟨w.heap.size + 1, 2, none⟩ (.int .i64 Q)) ⟨F0.out.2.1.other (p := ⟨w.heap.size + 1, 2, none⟩) n1 _, F0.out.2.2.put2 Q⟩ (Below.refl _ _).drew⟩
  clear f p0 p1 p2 p3 p4 p5 p6 f' q0 q1 q2 q3 q4 q5 q6 F0 hHeldZ hHeld
  rw [hY]
  clear hY m2 m3 m4 n1' n2' n3' v2 v3 v4 v5 v1 hx2 hx3 hx4 hx5 b1 b0
  obtain ⟨⟨f, p0, p1, p2, p3, p4, p5, p6⟩, f', q0, q1, q2, q3, q4, q5, q6⟩ := F1.out.2
  go_wp2_with fail
  obtain ⟨Z, hZ⟩ : ∃ Z, Y.setCell ⟨w.heap.size + 1, 4, none⟩ (.string TG) = Z := ⟨_, rfl⟩
  have F2 : Hid (Below w.heap.size w Z ∧ Box2 Z w.heap.size 4 u Q ⟨#[]⟩ TG none 0 0 none 0 0) := by
    rw [← hZ]
    exact ⟨F1.out.1.setCell (p := ⟨w.heap.size + 1, 4, none⟩) (Nat.le_succ _) _, F1.out.2.1.other (p := ⟨w.heap.size + 1, 4, none⟩) n1 _, F1.out.2.2.put4 TG⟩
  rw [hZ]
  clear hZ
  clear f p0 p1 p2 p3 p4 p5 p6 f' q0 q1 q2 q3 q4 q5 q6
  obtain ⟨IL, hIL⟩ : ∃ l, rIdsR 4 (by' R2) = l := ⟨_, rfl⟩
  rw [hIL] at HM
  have HI : Hid (IL = rIdsR 4 (by' R2)) := hIL.symm
  clear hIL
  go_loopw [5] (fun sv wr => ∃ (f : Nat) (x : ByteArray) (out : List ByteArray) (a6 : Option Addr) (n6 c6 : Nat), sv = .string x ∧ Hid (f ≤ 4 ∧ x.size = 16 * f ∧ IL = out ++ rIdsR f (by' x) ∧ n6 ≤ 4 - f) ∧ Hid (wr.ownsRow (w.heap.size + 2) 9 1 (.slice a6 n6 c6) n6 (scells out) ∧ Below w.heap.size w wr ∧ Box2 wr w.heap.size 4 u Q ⟨#[]⟩ TG none 0 0 a6 n6 c6)) (fun sv _ => match sv with | .string x => x.size | _ => 0)
  case atStart => exact ⟨4, R2, [], none, 0, 0, rfl, ⟨Nat.le_refl _, sr2, HI.out, Nat.zero_le _⟩, World.ownsRow_nil _ _ _ _, F2.out.1, F2.out.2⟩
  case round =>
    obtain ⟨fu, x, out, a6, n6, c6, rfl, J, I⟩ := hrel
    clear HI sr2
    obtain ⟨⟨f, p0, p1, p2, p3, p4, p5, p6⟩, f', q0, q1, q2, q3, q4, q5, q6⟩ := I.out.2.2
    cases fu with
    | zero =>
      obtain rfl := nil_of (show x.size = 0 by have := J.out.2.1; omega)
      obtain ⟨lo, a6', c6', e6, s6, z6, b6⟩ := own_strAt2 I.out.1
      cases e6
      have E : Hid (IL = out ∧ n6 ≤ 4) := ⟨by rw [J.out.2.2.1]; show out ++ [] = out; simp, by have := J.out.2.2.2; omega⟩
      have F3 : Hid (Below w.heap.size w wr ∧ Box2 wr w.heap.size 4 u Q ⟨#[]⟩ TG none 0 0 a6 n6 c6 ∧ Lists wr none 0 0 a6 n6 c6 [] IL ∧ (∀ x : Addr, (none : Option Addr) = some x → w.heap.size ≠ x.block) ∧ ∀ x : Addr, a6 = some x → w.heap.size ≠ x.block) := by
        refine ⟨I.out.2.1, I.out.2.2, ⟨SlAt.nil _ _, by rw [E.out.1]; exact s6, rfl, by rw [E.out.1]; exact lo, fun _ => ⟨rfl, rfl⟩, z6, by decide, by have := E.out.2; omega⟩, fun x h => (by cases h), fun x hx => by have := b6 x hx; omega⟩
      clear J I lo s6 z6 b6
      unfold e0
      go_wp2
      clear f p0 p1 p2 p3 p4 p5 p6 f' q0 q1 q2 q3 q4 q5 q6
      go_loopw [5, 6] (fun sv _ wr' => sv = .string ⟨#[]⟩ ∧ Hid (Below w.heap.size w wr' ∧ Box2 wr' w.heap.size 4 u Q ⟨#[]⟩ TG none 0 0 a6 n6 c6 ∧ Lists wr' none 0 0 a6 n6 c6 [] IL ∧ (∀ x : Addr, (none : Option Addr) = some x → w.heap.size ≠ x.block) ∧ ∀ x : Addr, a6 = some x → w.heap.size ≠ x.block)) (fun _ _ _ => 0)
      case atStart => exact ⟨rfl, F3.out⟩
      case round =>
        obtain ⟨rfl, I3⟩ := hrel
        obtain ⟨⟨f, p0, p1, p2, p3, p4, p5, p6⟩, f', q0, q1, q2, q3, q4, q5, q6⟩ := I3.out.2.1
        go_wp2_with fail
        refine Calls.mono (rcheck_any 4 u Q ⟨#[]⟩ TG none 0 0 a6 n6 c6 [] IL wr I3.out.2.2.1) ?_
        rintro e x1 ⟨rfl, hc1⟩
        have G1 : Hid (Below w.heap.size w x1 ∧ Box2 x1 w.heap.size 4 u Q ⟨#[]⟩ TG none 0 0 a6 n6 c6 ∧ Lists x1 none 0 0 a6 n6 c6 [] IL) := ⟨chain I3.out.1 hc1, I3.out.2.1.later hc1, I3.out.2.2.1.later hc1⟩
        clear hc1 f p0 p1 p2 p3 p4 p5 p6 f' q0 q1 q2 q3 q4 q5 q6
        obtain ⟨⟨f, p0, p1, p2, p3, p4, p5, p6⟩, f', q0, q1, q2, q3, q4, q5, q6⟩ := G1.out.2.1
        cases hok : okB ⟨4, u, Q, ⟨#[]⟩, TG, [], IL⟩ with
        | false =>
          have ED : Hid (deR (by' s) = 110 ∧ dmR (by' s) = zm) := by
            have e : decR (by' s) = false := by rw [DR.out, HM.out]; show (okB ⟨4, u, Q, ⟨#[]⟩, TG, [], IL⟩ && _) = _; rw [hok]; rfl
            unfold deR dmR
            rw [e]; exact ⟨rfl, rfl⟩
          rw [show chkE false = 110 from rfl]
          clear hok
          go_wp2
          refine bodyPost_ret (v := .tuple #[mv 0 0 0 ⟨#[]⟩ ⟨#[]⟩ none 0 0 none 0 0, .int .i64 110]) ?_ rfl ⟨mv 0 0 0 ⟨#[]⟩ ⟨#[]⟩ none 0 0 none 0 0, by rw [ED.out.1], by rw [ED.out.2]; exact MlV.zero _, below_whole G1.out.1 (Nat.le_refl _) _ _ _ _ _ _ _⟩
          exact res_rdecode _ _ w.heap.size _ _ _ _ _ _ _ _ _ _ _ _ (by kernel_rfl) (by kernel_rfl) (zero_store G1.out.2.1.1)
        | true =>
          rw [show chkE true = 0 from rfl]
          obtain ⟨T, hT⟩ : ∃ T, mk (txt ⟨4, u, Q, ⟨#[]⟩, TG, [], IL⟩) = T := ⟨_, rfl⟩
          have TX : Hid (Calls Try.prog 28 #[mv 4 u Q ⟨#[]⟩ TG none 0 0 a6 n6 c6] x1 fun e w' => e = .returned (.string T) ∧ Below x1.heap.size x1 w') := by
            rw [← hT]; exact rtext_any 4 u Q ⟨#[]⟩ TG none 0 0 a6 n6 c6 [] IL hok x1 G1.out.2.2
          go_wp2_with fail
          refine Calls.mono TX.out ?_
          rintro e x2 ⟨rfl, hc2⟩
          have G2 : Hid (Below w.heap.size w x2 ∧ Box2 x2 w.heap.size 4 u Q ⟨#[]⟩ TG none 0 0 a6 n6 c6 ∧ Lists x2 none 0 0 a6 n6 c6 [] IL) := ⟨chain G1.out.1 hc2, G1.out.2.1.later hc2, G1.out.2.2.later hc2⟩
          clear hc2 TX f p0 p1 p2 p3 p4 p5 p6 f' q0 q1 q2 q3 q4 q5 q6
          obtain ⟨⟨f, p0, p1, p2, p3, p4, p5, p6⟩, f', q0, q1, q2, q3, q4, q5, q6⟩ := G2.out.2.1
          by_cases hq : txt ⟨4, u, Q, ⟨#[]⟩, TG, [], IL⟩ = by' s
          · have ED : Hid (deR (by' s) = 0 ∧ dmR (by' s) = ⟨4, u, Q, ⟨#[]⟩, TG, [], IL⟩) := by
              have e : decR (by' s) = true := by rw [DR.out, HM.out]; show (okB ⟨4, u, Q, ⟨#[]⟩, TG, [], IL⟩ && decide (txt ⟨4, u, Q, ⟨#[]⟩, TG, [], IL⟩ = _)) = _; rw [hok, decide_eq_true hq]; rfl
              unfold deR dmR
              rw [e, HM.out]; exact ⟨rfl, rfl⟩
            have hTs : T = s := by rw [← hT, hq]; rfl
            clear hT hq hok
            have YY : (T.toList == s.toList) = true := by rw [hTs]; simp
            clear hTs
            go_wp2
            refine bodyPost_ret (v := .tuple #[mv 4 u Q ⟨#[]⟩ TG none 0 0 a6 n6 c6, .int .i64 0]) ?_ rfl ⟨mv 4 u Q ⟨#[]⟩ TG none 0 0 a6 n6 c6, by rw [ED.out.1], by rw [ED.out.2]; exact ⟨_, _, _, _, _, _, rfl, lists_whole G2.out.2.2 I3.out.2.2.2.1 I3.out.2.2.2.2 _ _ _ _ _ _ _⟩, below_whole G2.out.1 (Nat.le_refl _) _ _ _ _ _ _ _⟩
            exact res_rdecode _ _ w.heap.size _ _ _ _ _ _ _ _ _ _ _ _ (by kernel_rfl) (by kernel_rfl) (G2.out.2.1.1.whole _ _ _ _ _ _ _ _ _ _ _)
          · have ED : Hid (deR (by' s) = 110 ∧ dmR (by' s) = zm) := by
              have e : decR (by' s) = false := by rw [DR.out, HM.out]; show (okB ⟨4, u, Q, ⟨#[]⟩, TG, [], IL⟩ && decide (txt ⟨4, u, Q, ⟨#[]⟩, TG, [], IL⟩ = _)) = _; rw [hok, decide_eq_false hq]; rfl
              unfold deR dmR
              rw [e]; exact ⟨rfl, rfl⟩
            have NN : (T.toList == s.toList) = false := by
              rw [beq_eq_false_iff_ne, toList_by, toList_by, ← hT, by_mk]; exact hq
            clear hT hq hok
            go_wp2
            refine bodyPost_ret (v := .tuple #[mv 0 0 0 ⟨#[]⟩ ⟨#[]⟩ none 0 0 none 0 0, .int .i64 110]) ?_ rfl ⟨mv 0 0 0 ⟨#[]⟩ ⟨#[]⟩ none 0 0 none 0 0, by rw [ED.out.1], by rw [ED.out.2]; exact MlV.zero _, below_whole G2.out.1 (Nat.le_refl _) _ _ _ _ _ _ _⟩
            exact res_rdecode _ _ w.heap.size _ _ _ _ _ _ _ _ _ _ _ _ (by kernel_rfl) (by kernel_rfl) (zero_store G2.out.2.1.1)
    | succ fu =>
      have hf := J.out.1
      have hx := J.out.2.1
      have z2 : (0 : Int) < (x.size : Int) := by omega
      have z3 : (16 : Int) ≤ (x.size : Int) := by omega
      have z4 : 16 ≤ x.size := by omega
      obtain ⟨y, hy⟩ : ∃ y, x.extract 0 16 = y := ⟨_, rfl⟩
      obtain ⟨r, hr⟩ : ∃ r, x.extract 16 x.size = r := ⟨_, rfl⟩
      have ys : y.size = 16 := by rw [← hy, ext_size _ 0 16 z4 (by omega)]
      have yb : by' y = (by' x).take 16 := by rw [← hy, ext_by, List.drop_zero]
      have rb : by' r = (by' x).drop 16 := by rw [← hr, ext_tail _ _ _ (Nat.le_refl _), by_mk]
      have rs : r.size = 16 * fu := by rw [← hr, ext_size _ _ _ (Nat.le_refl _) z4]; omega
      have hrl : r.size < x.size := by omega
      have SH := rshown_any y
      have hid := idB_nz ys
      rw [yb] at hid
      cases hnz : nz ((by' x).take 16) with
      | false =>
        rw [hnz] at hid
        rw [hid] at SH
        have SH : ∀ w, Calls Try.prog 35 #[.string y] w fun e w' => e = .returned (.string ⟨#[]⟩) ∧ Below w.heap.size w w' := SH
        have J2 : Hid (fu ≤ 4 ∧ r.size = 16 * fu ∧ IL = out ++ rIdsR fu (by' r) ∧ n6 ≤ 4 - fu) := by
          obtain ⟨j1, j2, j3, j4⟩ := J.out
          refine ⟨by omega, rs, ?_, by omega⟩
          rw [j3, rb]
          conv => lhs; unfold rIdsR
          rw [if_neg (by rw [hnz]; decide)]
        clear J hid hnz yb rb rs ys hx hf
        go_wp2_with fail
        refine Calls.mono (SH _) ?_
        rintro e w3 ⟨rfl, hb3⟩
        have I2 : Hid (w3.ownsRow (w.heap.size + 2) 9 1 (.slice a6 n6 c6) n6 (scells out) ∧ Below w.heap.size w w3 ∧ Box2 w3 w.heap.size 4 u Q ⟨#[]⟩ TG none 0 0 a6 n6 c6) := ⟨own_later I.out.1 hb3, chain I.out.2.1 hb3, I.out.2.2.later hb3⟩
        clear hb3 SH I f p0 p1 p2 p3 p4 p5 p6 f' q0 q1 q2 q3 q4 q5 q6
        go_wp2
        go_roundw
        case rel => exact ⟨fu, r, out, a6, n6, c6, rfl, J2.out, I2.out⟩
        case measure => exact hrl
      | true =>
        rw [hnz] at hid
        rw [hid] at SH
        have SH : ∀ w, Calls Try.prog 35 #[.string y] w fun e w' => e = .returned (.string y) ∧ Below w.heap.size w w' := SH
        have yn : (y.toList == []) = false := by rw [size_toList, decide_eq_false (by omega)]
        have J2 : Hid (fu ≤ 4 ∧ r.size = 16 * fu ∧ IL = (out ++ [y]) ++ rIdsR fu (by' r) ∧ n6 + 1 ≤ 4 - fu) := by
          obtain ⟨j1, j2, j3, j4⟩ := J.out
          refine ⟨by omega, rs, ?_, by omega⟩
          rw [j3, rb]
          conv => lhs; unfold rIdsR
          rw [if_pos hnz, ← yb]
          show _ ++ (y :: _) = _
          simp
        have n4 : n6 ≤ 1000 := by have := J.out.2.2.2; omega
        clear J hid hnz yb rb rs ys hx hf
        go_wp2_with fail
        refine Calls.mono (SH _) ?_
        rintro e V ⟨rfl, hb3⟩
        have FV : Hid (V.ownsRow (w.heap.size + 2) 9 1 (.slice a6 n6 c6) n6 (scells out) ∧ Below w.heap.size w V ∧ MlAt V w.heap.size 0 0 0 ⟨#[]⟩ ⟨#[]⟩ none 0 0 none 0 0 ∧ MlAt V (w.heap.size + 1) 4 u Q ⟨#[]⟩ TG none 0 0 a6 n6 c6) := ⟨own_later I.out.1 hb3, chain I.out.2.1 hb3, (I.out.2.2.later hb3).1, (I.out.2.2.later hb3).2⟩
        clear hb3 SH I f p0 p1 p2 p3 p4 p5 p6 f' q0 q1 q2 q3 q4 q5 q6
        have APP : Hid (∀ W, Below V.heap.size V W → ∃ v' w', (Builtin.append_ #[23, 23] 23 #[.slice a6 n6 c6, .slice (some ⟨W.heap.size, 0, none⟩) 1 1]).run Try.prog (W.alloc (.cells #[.string y] 9)) = .ok v' w' ∧ ∃ a' c', v' = .slice a' (n6 + 1) c' ∧ Hid (w'.ownsRow (w.heap.size + 2) 9 1 (.slice a' (n6 + 1) c') (n6 + 1) (scells (out ++ [y])) ∧ Below w.heap.size w w' ∧ MlAt w' w.heap.size 0 0 0 ⟨#[]⟩ ⟨#[]⟩ none 0 0 none 0 0 ∧ MlAt w' (w.heap.size + 1) 4 u Q ⟨#[]⟩ TG none 0 0 a6 n6 c6)) := fun W hW => by
          have hbs : w.heap.size + 2 ≤ W.heap.size := Nat.le_trans FV.out.2.2.2.lt hW.size
          obtain ⟨v', w', h1, h2, h3, -⟩ := app_one W 23 (w.heap.size + 2) (.slice a6 n6 c6) n6 out (own_later FV.out.1 hW) y n4 hbs
          obtain ⟨-, a', c', rfl, -⟩ := own_strAt2 h2
          exact ⟨_, w', h1, a', c', rfl, h2, (chain FV.out.2.1 hW).trans (h3.mono (by omega)), (FV.out.2.2.1.later hW).keep h3 (by omega), (FV.out.2.2.2.later hW).keep h3 (by omega)⟩
        go_wp2_with fail
        refine (fun (KEY : ∀ (D9 : World) (a9 : Option Addr) (c9 : Nat) (w9 : World), (w9.ownsRow (w.heap.size + 2) 9 1 (.slice a9 (n6 + 1) c9) (n6 + 1) (scells (out ++ [y])) ∧ Below w.heap.size w w9 ∧ MlAt w9 w.heap.size 0 0 0 ⟨#[]⟩ ⟨#[]⟩ none 0 0 none 0 0 ∧ MlAt w9 (w.heap.size + 1) 4 u Q ⟨#[]⟩ TG none 0 0 a6 n6 c6) → (?KK4 : World → Option Addr → Nat → World → Prop) D9 a9 c9 w9) => ?main4) ?key4
        case main4 =>
          refine wp_region_noPanic ?_
          refine wp_region_held_drew (S := fun _ => True) (by kernel_rfl) (trivial) (fun hHeld => ?_)
          obtain ⟨D, hD⟩ : ∃ D, V.drew = D := ⟨_, rfl⟩
          have hbD : Below V.heap.size V D := by rw [← hD]; exact (Below.refl _ _).drew
          rw [hD]
          clear hD
          have mm0 := FV.out.2.2.2.later hbD
          refine wpAnyH_take (i := 0) (oi := opy0) (v := ?_) rfl (by kernel_rfl) (by kernel_rfl) (by kernel_rfl) (fun _ _ _ h => h) (Or.inl ⟨by rfl, ?_⟩) (by assumption) ?_
          rotate_left
          · intro w' hSw
            clear hSw
            unfold opy0
            first
            | (go_simp; done)
            | (go_simp; with_reducible rfl)
          simp only [opy0, Act.put, List.setIfInBounds_toArray, List.set_cons_zero, List.set_cons_succ]
          refine wpAnyH_take (i := 2) (oi := opy2) (v := ?_) rfl (by kernel_rfl) (by kernel_rfl) (by kernel_rfl) (fun _ _ _ h => h) (Or.inl ⟨by rfl, ?_⟩) (by assumption) ?_
          rotate_left
          · intro w' hSw
            clear hSw
            unfold opy2
            first
            | (go_simp; done)
            | (go_simp; with_reducible rfl)
          simp only [opy2, Act.put, List.setIfInBounds_toArray, List.set_cons_zero, List.set_cons_succ]
          refine wpAnyH_take (i := 3) (oi := opy3) (v := ?_) rfl (by kernel_rfl) (by kernel_rfl) (by kernel_rfl) (fun _ _ _ h => h) (Or.inl ⟨by rfl, ?_⟩) (by assumption) ?_
          rotate_left
          · intro w' hSw
            clear hSw
            unfold opy3
            first
            | (go_simp; done)
            | (go_simp; with_reducible rfl)
          simp only [opy3, Act.put, List.setIfInBounds_toArray, List.set_cons_zero, List.set_cons_succ]
          refine wpAnyH_ready (rs := [1, 4]) (by kernel_rfl) (by simp) ?_
          refine AllReadyH.cons (o := opy1) rfl (fun KK hKK => ?_) (AllReadyH.cons (o := opy4) rfl (fun KK hKK => ?_) AllReadyH.nil)
          · have lc := mm0.2.2.2.2.2.2.2
            unfold opy1
            go_simp
            refine hKK.out _ _ trivial (fun hHeld1 => ?_)
            clear hKK KK lc
            refine wpAnyH_ready (rs := [4]) (by kernel_rfl) (by simp) ?_
            refine AllReadyH.cons (o := opy4) rfl (fun KK hKK => ?_) AllReadyH.nil
            unfold opy4
            go_simp
            have mm2 : MlAt (D.alloc (.cells #[.string y] 9)) (w.heap.size + 1) _ _ _ _ _ _ _ _ _ _ _ := mm0.later ((Below.refl _ _).alloc (Nat.le_refl _) _)
            refine hKK.out _ _ trivial (fun hHeld2 => ?_)
            clear hKK KK
            refine wpAnyH_ready (rs := [5]) (by kernel_rfl) (by simp) ?_
            refine AllReadyH.cons (o := opy5) rfl (fun KK hKK => ?_) AllReadyH.nil
            obtain ⟨v9, w9, hr, A9⟩ := APP.out D hbD
            rw [if_pos (by kernel_rfl)]
            refine Go.Lib.wp_append_run _ _ _ _ _ rfl _ _ rfl rfl _ _ hr ?_
            refine hKK.out _ _ trivial (fun hHeld9 => ?_)
            clear hKK KK hr
            simp only [opy5, Act.put, List.setIfInBounds_toArray, List.set_cons_zero, List.set_cons_succ]
            obtain ⟨a9, c9, rfl, O9⟩ := A9
            refine wpAnyH_take (i := 6) (oi := opy6) (v := ?_) rfl (by kernel_rfl) (by kernel_rfl) (by kernel_rfl) (fun _ _ _ h => h) (Or.inl ⟨by rfl, ?_⟩) (by assumption) ?_
            rotate_left
            · intro w' hSw
              clear hSw
              unfold opy6
              first
              | (go_simp; done)
              | (go_simp; with_reducible rfl)
            simp only [opy6, Act.put, List.setIfInBounds_toArray, List.set_cons_zero, List.set_cons_succ]
            refine wpAnyH_ready (rs := [7]) (by kernel_rfl) (by simp) ?_
            refine AllReadyH.cons (o := opy7) rfl (fun KK hKK => ?_) AllReadyH.nil
            obtain ⟨f, q0, q1, q2, q3, q4, q5, q6⟩ := O9.out.2.2.2
            have fz := f 5
            have fy := f 6
            unfold opy7
            go_simp
            refine hKK.out _ _ trivial (fun hHeldS => ?_)
            clear hKK KK f q0 q1 q2 q3 q4 q5 q6 fz fy
            refine wpAnyH_done (by kernel_rfl) ?_ _
            refine NoPanic.normal ?_
            exact KEY D a9 c9 w9 O9.out
          · unfold opy4
            go_simp
            have mm1 : MlAt (D.alloc (.cells #[.string y] 9)) (w.heap.size + 1) _ _ _ _ _ _ _ _ _ _ _ := mm0.later ((Below.refl _ _).alloc (Nat.le_refl _) _)
            refine hKK.out _ _ trivial (fun hHeld1 => ?_)
            clear hKK KK
            refine wpAnyH_ready (rs := [1]) (by kernel_rfl) (by simp) ?_
            refine AllReadyH.cons (o := opy1) rfl (fun KK hKK => ?_) AllReadyH.nil
            have lc := mm1.2.2.2.2.2.2.2
            unfold opy1
            go_simp
            refine hKK.out _ _ trivial (fun hHeld2 => ?_)
            clear hKK KK lc
            refine wpAnyH_ready (rs := [5]) (by kernel_rfl) (by simp) ?_
            refine AllReadyH.cons (o := opy5) rfl (fun KK hKK => ?_) AllReadyH.nil
            obtain ⟨v9, w9, hr, A9⟩ := APP.out D hbD
            rw [if_pos (by kernel_rfl)]
            refine Go.Lib.wp_append_run _ _ _ _ _ rfl _ _ rfl rfl _ _ hr ?_
            refine hKK.out _ _ trivial (fun hHeld9 => ?_)
            clear hKK KK hr
            simp only [opy5, Act.put, List.setIfInBounds_toArray, List.set_cons_zero, List.set_cons_succ]
            obtain ⟨a9, c9, rfl, O9⟩ := A9
            refine wpAnyH_take (i := 6) (oi := opy6) (v := ?_) rfl (by kernel_rfl) (by kernel_rfl) (by kernel_rfl) (fun _ _ _ h => h) (Or.inl ⟨by rfl, ?_⟩) (by assumption) ?_
            rotate_left
            · intro w' hSw
              clear hSw
              unfold opy6
              first
              | (go_simp; done)
              | (go_simp; with_reducible rfl)
            simp only [opy6, Act.put, List.setIfInBounds_toArray, List.set_cons_zero, List.set_cons_succ]
            refine wpAnyH_ready (rs := [7]) (by kernel_rfl) (by simp) ?_
            refine AllReadyH.cons (o := opy7) rfl (fun KK hKK => ?_) AllReadyH.nil
            obtain ⟨f, q0, q1, q2, q3, q4, q5, q6⟩ := O9.out.2.2.2
            have fz := f 5
            have fy := f 6
            unfold opy7
            go_simp
            refine hKK.out _ _ trivial (fun hHeldS => ?_)
            clear hKK KK f q0 q1 q2 q3 q4 q5 q6 fz fy
            refine wpAnyH_done (by kernel_rfl) ?_ _
            refine NoPanic.normal ?_
            exact KEY D a9 c9 w9 O9.out
        case key4 =>
          intro D9 a9 c9 w9 hO
          have I2 : Hid ((w9.setCell ⟨w.heap.size + 1, 6, none⟩ (.slice a9 (n6 + 1) c9)).ownsRow (w.heap.size + 2) 9 1 (.slice a9 (n6 + 1) c9) (n6 + 1) (scells (out ++ [y])) ∧ Below w.heap.size w (w9.setCell ⟨w.heap.size + 1, 6, none⟩ (.slice a9 (n6 + 1) c9)) ∧ Box2 (w9.setCell ⟨w.heap.size + 1, 6, none⟩ (.slice a9 (n6 + 1) c9)) w.heap.size 4 u Q ⟨#[]⟩ TG none 0 0 a9 (n6 + 1) c9) := ⟨own_other hO.1 (by show w.heap.size + 1 < _; omega) _, hO.2.1.setCell (p := ⟨w.heap.size + 1, 6, none⟩) (Nat.le_succ _) _, hO.2.2.1.other (p := ⟨w.heap.size + 1, 6, none⟩) n1 _, hO.2.2.2.put6 _ _ _⟩
          clear hO
          go_wp2
          go_roundw
          case rel => exact ⟨fu, r, out ++ [y], a9, n6 + 1, c9, rfl, J2.out, I2.out⟩
          case measure => exact hrl
end Go.Proofs.Ytbaajpefefedbaa
