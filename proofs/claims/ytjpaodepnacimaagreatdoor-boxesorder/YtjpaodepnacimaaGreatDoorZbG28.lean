/- Parts: BpG, BpH, BpI. -/
import Derived.Test.YtjpaodepnacimaaGreatDoorZbG27
import Derived.Deep.CutBlock
namespace Go.Proofs.YtjpaodepnacimaaGreatDoor
open Go.RowKit Go.Proofs.Fd Go.Proofs.Dk Go.Proofs.Lg Go.Proofs.Bx
set_option maxRecDepth 20000
def zsh : List Value := List.replicate 64 (.slice none 0 0)
theorem zsh_len : zsh.length = 64 := List.length_replicate
theorem zsh_ne : zsh ≠ [] := by decide
theorem bvs_zero (K : Nat → Prop) (w : World) : Bvs K w zsh fun _ => [] := ⟨zsh_len, fun u hu => ⟨none, 0, 0, by unfold zsh; rw [List.getElem?_replicate, if_pos hu], Sli.nil w, (fun x e => by cases e)⟩⟩
theorem infoSh : (Tryz.prog.info? 86).map (fun i => (i.zero, i.size)) = some (some (.agg zsh.toArray), 64) := by kernel_rfl
theorem sizeSh : (Tryz.prog.info? 86).map (·.size) = some 64 := by kernel_rfl
theorem Bvs.one {K : Nat → Prop} {w : World} {vs : List Value} {b : Bxs} (h : Bvs K w vs b) : ∀ v ∈ vs, v.oneCell' = true := fun v hv => by
  obtain ⟨i, hi, e⟩ := List.mem_iff_getElem.1 hv
  obtain ⟨a, n, c, e2, -, -⟩ := h.bx i (by rw [← h.ln]; exact hi)
  rw [List.getElem?_eq_getElem hi, e] at e2
  rw [Option.some.inj e2]
  rfl
theorem load_sh {w : World} {S o : Nat} {vs : List Value} (h : w.rangeAt S o vs) (hl : vs.length = 64) : (Instr.loadAt 86 (.pointer (some ⟨S, o, none⟩))).run Tryz.prog w = .ok (.agg vs.toArray) w :=
  run_loadAt_mid w S o _ vs _ h Tryz.underlying86 rfl (by rw [hl]; exact sizeSh)
theorem store_sh {w : World} {S o : Nat} {vs : List Value} (h : w.there S o 64) (hl : vs.length = 64) (h1 : ∀ v ∈ vs, v.oneCell' = true) : (Instr.storeAt 86 (.pointer (some ⟨S, o, none⟩)) (.agg vs.toArray)).run Tryz.prog w = .ok () (w.setCells S o vs) := by
  have := run_storeAt_mid (P := Tryz.prog) w S o 86 vs.toArray (by rw [List.size_toArray, hl]; exact h) (by rw [List.size_toArray, hl]; exact sizeSh) (by simpa using h1)
  exact this
theorem tkX_grow {b c : Bxs} {r : Bs} (h : tkX b r = some c) (v : Nat) : (c v).length ≤ (b v).length + 1 := by
  unfold tkX at h
  split at h
  · split at h
    · cases h
      by_cases e : v = rU r
      · subst e; rw [upB_same, List.length_append]; simp
      · rw [upB_other _ _ e]; omega
    · split at h
      · cases h
        by_cases e : v = rU r
        · subst e; rw [upB_same]; have := rmL_le (b (rU r)) (rI r); omega
        · rw [upB_other _ _ e]; omega
      · cases h
  · cases h
theorem alloc_sh (w : World) : (Instr.alloc 86 true (.tuple #[])).run Tryz.prog w = .ok (.pointer (some ⟨w.heap.size, 0, none⟩)) (w.alloc (.cells zsh.toArray 86)) := by
  obtain ⟨i0, hi, hz0, hz1⟩ : ∃ i0, Tryz.prog.info? 86 = some i0 ∧ i0.zero = some (.agg zsh.toArray) ∧ i0.size = 64 := by
    have h := infoSh
    cases hq : Tryz.prog.info? 86 with
    | none => rw [hq] at h; cases h
    | some i0 =>
      rw [hq] at h
      simp only [Option.map_some, Option.some.injEq, Prod.mk.injEq] at h
      exact ⟨i0, rfl, h.1, h.2⟩
  simp [Instr.alloc, newVar, newRow, zeroValue, typeInfo, hi, hz0, Value.cells]
theorem wp_build_run {P : Program} {o : Oper} {a : Act} {w : World} {K : Act → World → Prop} {Q : Exit → Act → World → Prop} (t : TypeId) (parts : Array (Nat × Operand)) (ho : o.op = .build t parts) (vs : Array (Nat × Value)) (hv : (parts.map fun (i, x) => (i, a.eval x)) = vs)
    (v : Value) (hr : (Instr.build t vs).run P w = .ok v w) (h : K (a.put o.dst v) w) : o.wp P a w K Q := by
  unfold Oper.wp execOp
  simp only [ho, hv, Sem.run_bind, hr, Result.andThen_ok]
  exact h
theorem build_sh (w : World) : (Instr.build 86 #[]).run Tryz.prog w = .ok (.agg zsh.toArray) w := by kernel_rfl
def BhP (K : Nat → Prop) (w : World) (o : Option Bxs) (e : Ending) (w' : World) : Prop :=
  ∃ vs, e = .returned (.tuple #[.agg vs.toArray, .bool o.isSome]) ∧ Bvs K w' vs (o.getD fun _ => []) ∧ Below w.heap.size w w'
theorem tksX_take (b : Bxs) (rs : List Bs) (k : Nat) (hk : k < rs.length) (c : Bxs) (h : tksX b (rs.take k) = some c) : tksX b (rs.take (k + 1)) = tkX c rs[k] := by
  rw [List.take_succ_eq_append_getElem hk, tksX_app, h]
  show (tkX c rs[k]).bind (fun c => tksX c []) = _
  cases tkX c rs[k] <;> rfl
theorem tksX_stop (b : Bxs) (rs : List Bs) (k : Nat) (h : tksX b (rs.take k) = none) : tksX b rs = none := by
  have := tksX_app (rs.take k) b (rs.drop k)
  rw [List.take_append_drop, h] at this
  exact this
structure Bhl (K : Nat → Prop) (w : World) (b : Bxs) (rs : List Bs) (k : Nat) (wr : World) : Prop where
  lp : ∃ c vs, tksX b (rs.take k) = some c ∧ Shl (fun z => K z ∧ z ≠ w.heap.size ∧ z ≠ w.heap.size + 1) wr w.heap.size vs c ∧ ∀ v, (c v).length ≤ (b v).length + k
  zb : Blk wr (w.heap.size + 1) zsh
  bw : Below w.heap.size w wr
set_option maxHeartbeats 4000000 in
theorem xbehind_any (Kq : Nat → Prop) (w : World) (vs : List Value) (b : Bxs) (a : Option Addr) (n c : Nat) (rs : List Bs) (hn : rs.length = n) (hnb : n ≤ 50000) (hr : ∀ r ∈ rs, 1 ≤ r.length ∧ r.length ≤ 2000) (hl : ∀ v, (b v).length ≤ 50000) (hK : ∀ z, w.heap.size ≤ z → Kq z) (h : Hid (Bvs Kq w vs b)) (tx : Hid (TxAt w a rs)) :
    Calls Tryz.prog 36 #[.agg vs.toArray, .slice a n c] w fun e w' => BhP Kq w (tksX b rs) e w' := by
  have HN : Hid (rs.length = n) := hn
  have HR : Hid (∀ r ∈ rs, 1 ≤ r.length ∧ r.length ≤ 2000) := hr
  have vne : vs ≠ [] := fun e => by have := h.out.ln; rw [e] at this; simp at this
  have nb1 := nb w (.cells vs.toArray 86)
  have nb2 := nb (w.alloc (.cells vs.toArray 86)) (.cells zsh.toArray 86)
  have es : (w.alloc (.cells vs.toArray 86)).heap.size = w.heap.size + 1 := by simp
  have I0 : Hid (Bhl Kq w b rs 0 ((w.alloc (.cells vs.toArray 86)).alloc (.cells zsh.toArray 86))) := by
    refine ⟨⟨b, vs, rfl, ⟨(Blk.new w vs _ vne).later nb2, ?_, fun z => z.2.1 rfl⟩, fun v => Nat.le_refl _⟩, ?_, chain nb1 nb2⟩
    · exact (h.out.imp (K' := fun z => Kq z ∧ z ≠ w.heap.size ∧ z ≠ w.heap.size + 1) (fun z hz hlt => ⟨hz, by omega, by omega⟩)).later (chain nb1 nb2)
    · have := Blk.new (w.alloc (.cells vs.toArray 86)) zsh 86 zsh_ne
      rw [es] at this
      exact this
  have TK : Hid (∀ (W : World) (k : Nat) (hk : k < rs.length) (o : Bool), Bhl Kq w b rs k W → k ≤ 50000 → Calls Tryz.prog 67 #[.pointer (some ⟨w.heap.size, 0, none⟩), .string (st rs[k])] W fun e w' => ∃ o, e = .returned (.bool o) ∧ (o = true → Hid (Bhl Kq w b rs (k + 1) w')) ∧ (o = false → Hid (tksX b rs = none ∧ Blk w' (w.heap.size + 1) zsh ∧ Below w.heap.size w w'))) := fun W k hk _ z hk5 => by
    obtain ⟨⟨cc, vv, e1, sh, gl⟩, zb, bw⟩ := z
    obtain ⟨r1, r2⟩ := HR.out _ (List.getElem_mem hk)
    have es2 := tksX_take b rs k hk cc e1
    have hS := sh.bk.lt
    have hZ := zb.lt
    obtain ⟨x, t, hxt⟩ : ∃ x t, rs[k] = x :: t := by
      cases hq : rs[k] with
      | nil => rw [hq] at r1; simp at r1
      | cons x t => exact ⟨x, t, rfl⟩
    rw [hxt] at r2 es2 ⊢
    have hbw := bw.size
    refine (xtake_any _ W w.heap.size vv cc x t (by rw [List.length_cons] at r2; omega) (fun v => by have := gl v; have := hl v; omega) (fun z hz => ⟨hK z (by omega), by omega, by omega⟩) sh).mono ?_
    rintro e w' ⟨rfl, vs', s1, s2⟩
    refine ⟨_, rfl, fun ho => ?_, fun ho => ?_⟩
    · obtain ⟨c2, hc2⟩ := Option.isSome_iff_exists.1 ho
      have : tkB cc (x :: t) = c2 := by unfold tkB; rw [hc2]; rfl
      rw [this] at s1
      exact ⟨⟨c2, vs', es2.trans hc2, s1, fun v => by have := tkX_grow hc2 v; have := gl v; omega⟩, zb.bf s2 (by intro e; omega), bw.trans (s2.below (fun g e => by rw [e]; exact Nat.le_refl _) hbw)⟩
    · have hno : tkX cc (x :: t) = none := by
        cases hq : tkX cc (x :: t) with
        | none => rfl
        | some y => rw [hq] at ho; cases ho
      exact ⟨tksX_stop b rs (k + 1) (es2.trans hno), zb.bf s2 (by intro e; omega), bw.trans (s2.below (fun g e => by rw [e]; exact Nat.le_refl _) hbw)⟩
  have FIN : Hid (∀ W, Bhl Kq w b rs n W → ∃ vs', W.rangeAt w.heap.size 0 vs' ∧ (Instr.loadAt 86 (.pointer (some ⟨w.heap.size, 0, none⟩))).run Tryz.prog W = .ok (.agg vs'.toArray) W ∧ (Instr.storeAt 86 (.pointer (some ⟨w.heap.size + 1, 0, none⟩)) (.agg vs'.toArray)).run Tryz.prog W = .ok () (W.setCells (w.heap.size + 1) 0 vs') ∧ Hid (vs'.length = 64 ∧ (W.setCells (w.heap.size + 1) 0 vs').rangeAt (w.heap.size + 1) 0 vs' ∧ BhP Kq w (tksX b rs) (.returned (.tuple #[.agg vs'.toArray, .bool true])) (W.setCells (w.heap.size + 1) 0 vs'))) := fun W z => by
    obtain ⟨⟨cc, vv, e1, sh, gl⟩, zb, bw⟩ := z
    have hlen := sh.bv.ln
    have ht : W.there (w.heap.size + 1) 0 64 := by have := zb.there; rw [zsh_len] at this; exact this
    rw [List.take_of_length_le (by rw [HN.out]; exact Nat.le_refl _)] at e1
    have bf : Bf (fun z => z = w.heap.size + 1) W (W.setCells (w.heap.size + 1) 0 vv) := Bf.sets (fun z => z = w.heap.size + 1) (w.heap.size + 1) rfl vv 0 W
    refine ⟨vv, sh.bk.r, load_sh sh.bk.r hlen, store_sh ht hlen sh.bv.one, hlen, World.rangeAt_setCells_same W _ 0 vv (by rw [hlen]; exact ht), vv, by rw [e1]; rfl, ?_, bw.trans (bf.below (fun g e => by rw [e]; omega) bw.size)⟩
    rw [e1]
    exact ((sh.bv.bf bf (fun z hz e => hz.2.2 e)).imp fun z hz _ => hz.1)
  have NOP : Hid (∀ W, tksX b rs = none ∧ Blk W (w.heap.size + 1) zsh ∧ Below w.heap.size w W → (Instr.storeAt 86 (.pointer (some ⟨w.heap.size + 1, 0, none⟩)) (.agg zsh.toArray)).run Tryz.prog W = .ok () (W.setCells (w.heap.size + 1) 0 zsh) ∧ Hid ((W.setCells (w.heap.size + 1) 0 zsh).rangeAt (w.heap.size + 1) 0 zsh ∧ BhP Kq w (tksX b rs) (.returned (.tuple #[.agg zsh.toArray, .bool false])) (W.setCells (w.heap.size + 1) 0 zsh))) := fun W ⟨e1, zb, bw⟩ => by
    have ht : W.there (w.heap.size + 1) 0 64 := by have := zb.there; rw [zsh_len] at this; exact this
    have bf : Bf (fun z => z = w.heap.size + 1) W (W.setCells (w.heap.size + 1) 0 zsh) := Bf.sets (fun z => z = w.heap.size + 1) (w.heap.size + 1) rfl zsh 0 W
    refine ⟨store_sh ht zsh_len (bvs_zero Kq W).one, World.rangeAt_setCells_same W _ 0 zsh (by rw [zsh_len]; exact ht), zsh, by rw [e1]; rfl, ?_, bw.trans (bf.below (fun g e => by rw [e]; omega) bw.size)⟩
    rw [e1]
    exact bvs_zero Kq _
  have TXL : Hid (∀ W, Below w.heap.size w W → TxAt W a rs) := fun W hb => tx.out.later hb
  have AS : Hid ((Instr.alloc 86 true (.tuple #[])).run Tryz.prog (w.alloc (.cells vs.toArray 86)) = .ok (.pointer (some ⟨w.heap.size + 1, 0, none⟩)) ((w.alloc (.cells vs.toArray 86)).alloc (.cells zsh.toArray 86))) := by
    have := alloc_sh (w.alloc (.cells vs.toArray 86))
    rw [es] at this
    exact this
  clear h tx hn hr hl hK nb1 nb2 es vne
  go_enter Tryz.func36, Tryz.ntmps36
  go_upto_region 0 with fail
  refine wp_region_lit ?_
  refine wpList_plain rfl (fun K2 hK2 => ?_)
  go_simp
  refine hK2 _ _ ?_
  clear hK2 K2
  refine wpList_plain rfl (fun K2 hK2 => wp_alloc_run _ rfl _ _ AS.out (hK2 _ _ ?_))
  refine wpList_plain rfl (fun K2 hK2 => ?_)
  go_simp
  refine hK2 _ _ ?_
  clear hK2 K2
  refine wpList_nil ?_
  obtain ⟨W2, hW2⟩ : ∃ W, (w.alloc (.cells vs.toArray 86)).alloc (.cells zsh.toArray 86) = W := ⟨_, rfl⟩
  try simp only [Act.put, List.setIfInBounds_toArray, List.set_cons_zero, List.set_cons_succ]
  rw [hW2] at I0 ⊢
  clear AS hW2
  obtain ⟨A, hA⟩ : ∃ A, w.heap.size = A := ⟨_, rfl⟩
  obtain ⟨Z, hZ⟩ : ∃ Z, A + 1 = Z := ⟨_, rfl⟩
  rw [hA, hZ] at NOP FIN
  rw [hA] at TK
  rw [hZ] at TK
  rw [hA, hZ]
  go_wp2_with fail
  go_loopw [10] (fun i wr => ∃ k : Nat, k ≤ n ∧ i = .int .i64 (k : Int) ∧ Hid (Bhl Kq w b rs k wr)) (fun i wr => n - (intOf i).toNat)
  case atStart => exact ⟨0, Nat.zero_le _, rfl, I0.out⟩
  case round =>
    obtain ⟨k, hk, rfl, I⟩ := hrel
    clear I0
    by_cases hlt : k < n
    · have hkl : k < rs.length := by rw [HN.out]; exact hlt
      have g1 : (k : Int) < (n : Int) := by omega
      obtain ⟨b1, o1, rfl, c1⟩ := (TXL.out _ I.out.bw) k hkl
      have T1 : Hid _ := TK.out wr k hkl true I.out (by omega)
      unfold sv at c1
      obtain ⟨R, hR⟩ : ∃ R, st rs[k] = R := ⟨_, rfl⟩
      rw [hR] at c1 T1
      clear hR I
      go_wp2_with fail
      refine Calls.mono T1.out ?_
      rintro e w3 ⟨o, rfl, y1, y2⟩
      clear T1 c1
      cases o with
      | true =>
        have J : Hid _ := (y1 rfl).out
        clear y1 y2
        go_wp2
        go_roundw
        case rel => exact ⟨k + 1, by omega, by go_num, J.out⟩
        case measure => simp [intOf]; omega
      | false =>
        obtain ⟨S1, F1⟩ := NOP.out _ (y2 rfl).out
        have F2 : Hid _ := F1.out
        have S2 : Hid _ := S1
        clear F1 y1 y2 S1 FIN NOP
        go_upto_region 5 with fail
        refine wp_region_lit ?_
        refine wpList_plain rfl (fun K2 hK2 => wp_build_run _ _ rfl #[] (by simp) _ (build_sh _) (hK2 _ _ ?_))
        refine wpList_plain rfl (fun K2 hK2 => wp_store_run _ _ _ rfl _ rfl _ rfl _ S2.out (hK2 _ _ ?_))
        refine wpList_plain rfl (fun K2 hK2 => ?_)
        go_simp
        refine hK2 _ _ ?_
        clear hK2 K2
        refine wpList_nil ?_
        obtain ⟨W5, hW5⟩ : ∃ W, w3.setCells Z 0 zsh = W := ⟨_, rfl⟩
        rw [hW5] at F2 ⊢
        clear S2 hW5
        go_wp2
        refine bodyPost_ret (v := .tuple #[.agg zsh.toArray, .bool false]) ?_ rfl ?_
        · exact res_c2 Tryz.results36 _ _ Z _ _ (by kernel_rfl) (by kernel_rfl) (run_loadVar_mid _ Z 0 86 zsh _ F2.out.1 Tryz.underlying86 rfl (by rw [zsh_len]; exact sizeSh))
        · exact F2.out.2
    · have hkn : k = n := by omega
      subst hkn
      have g1 : ¬ (k : Int) < (k : Int) := by omega
      obtain ⟨vs', -, L1, S1, F1⟩ := FIN.out _ I.out
      have F2 : Hid _ := F1.out
      have L2 : Hid _ := L1
      have S2 : Hid _ := S1
      clear F1 FIN NOP TK L1 S1 I
      go_upto_region 7 with fail
      refine wp_region_lit ?_
      refine wpList_plain rfl (fun K2 hK2 => wp_load_run _ _ rfl _ rfl _ L2.out (hK2 _ _ ?_))
      refine wpList_plain rfl (fun K2 hK2 => wp_store_run _ _ _ rfl _ rfl _ rfl _ S2.out (hK2 _ _ ?_))
      refine wpList_plain rfl (fun K2 hK2 => ?_)
      go_simp
      refine hK2 _ _ ?_
      clear hK2 K2
      refine wpList_nil ?_
      obtain ⟨W5, hW5⟩ : ∃ W, wr.setCells Z 0 vs' = W := ⟨_, rfl⟩
      rw [hW5] at F2 ⊢
      clear S2 L2 hW5
      go_wp2
      refine bodyPost_ret (v := .tuple #[.agg vs'.toArray, .bool true]) ?_ rfl ?_
      · exact res_c2 Tryz.results36 _ _ Z _ _ (by kernel_rfl) (by kernel_rfl) (run_loadVar_mid _ Z 0 86 vs' _ F2.out.2.1 Tryz.underlying86 rfl (by rw [F2.out.1]; exact sizeSh))
      · exact F2.out.2.2
end Go.Proofs.YtjpaodepnacimaaGreatDoor
namespace Go.Proofs.YtjpaodepnacimaaGreatDoor
open Go.RowKit Go.Proofs.Fd Go.Proofs.Dk Go.Proofs.Lg Go.Proofs.Bx
set_option maxRecDepth 20000
def shU (b : Bxs) (u : Nat) : List Bs := (List.range u).flatMap fun u => (b u).map fun e => putR u e.1 e.2
theorem shU_succ (b : Bxs) (u : Nat) : shU b (u + 1) = shU b u ++ (b u).map fun e => putR u e.1 e.2 := by
  unfold shU
  rw [List.range_succ, List.flatMap_append]
  simp
theorem shU_all (b : Bxs) : shU b 64 = shX b := rfl
theorem shU_len (b : Bxs) (u : Nat) : (shU b u).length = manyX b u := by
  induction u with
  | zero => rfl
  | succ u ih => rw [shU_succ, List.length_append, ih, List.length_map, manyX]
theorem manyX_mono (b : Bxs) {u v : Nat} (h : u ≤ v) : manyX b u ≤ manyX b v := by
  induction v with
  | zero =>
    obtain rfl : u = 0 := by omega
    exact Nat.le_refl _
  | succ v ih =>
    by_cases e : u = v + 1
    · subst e; exact Nat.le_refl _
    · rw [manyX]; have := ih (by omega); omega
theorem app_str1 (base : Nat) (W : World) (ty : TypeId) (v : Value) (L : List Bs) (h : W.ownsRow base 9 1 v L.length (scs L)) (hb : base ≤ W.heap.size) (hl : L.length ≤ 1000000) (t : Bs) :
    ∃ v' W2, (Builtin.append_ #[37, 37] ty #[v, .slice (some ⟨W.heap.size, 0, none⟩) 1 1]).run Tryz.prog (W.alloc (.cells #[.string (st t)] 9)) = .ok v' W2 ∧ W2.ownsRow base 9 1 v' (L ++ [t]).length (scs (L ++ [t])) ∧ Below base W W2 := by
  obtain ⟨i0, hi, hz0, hz1, hz2⟩ := info_parts infoS
  have hown : (W.alloc (.cells #[.string (st t)] 9)).ownsRow base 9 1 v L.length (scs L) := h.alloc _
  obtain ⟨v', w', r1, r2, r3, -, -⟩ := run_append_own_at (P := Tryz.prog) (W.alloc (.cells #[.string (st t)] 9)) base 37 ty 9 i0 _ 1 16 Tryz.underlying37 hi hz0 hz1 hz2 rfl (by decide) v L.length (scs L) hown ⟨W.heap.size, 0, none⟩ 1 1 (scs [t]) rfl (fun j u hj => by
    have hj' : j < 1 := by
      have := (List.getElem?_eq_some_iff.1 hj).1
      simpa [scs] using this
    obtain rfl : j = 0 := by omega
    rw [Addr.add_mid, World.cell?_alloc_new]
    exact hj) (scs_one _) (by unfold maxLen; omega) (by omega) (by simp; omega)
  refine ⟨v', w', r1, ?_, ?_⟩
  · rw [scs_app, List.length_append]
    exact r2
  · exact ((Below.refl base W).alloc hb _).grown r3 (by simp; omega) (fun q hq => (hown.lt q hq).1)
set_option maxHeartbeats 4000000 in
theorem xshort_any (K : Nat → Prop) (w : World) (S : Nat) (vs : List Value) (b : Bxs) (gb : Gx b) (hm : manyX b 64 ≤ 50000) (h : Hid (Shl K w S vs b)) :
    Calls Tryz.prog 72 #[.pointer (some ⟨S, 0, none⟩)] w fun e w' => ∃ a c, e = .returned (.slice a (shX b).length c) ∧ TxAt w' a (shX b) ∧ (∀ x, a = some x → w.heap.size ≤ x.block) ∧ Below w.heap.size w w' := by
  have BX : Hid (∀ u, u < 64 → ∃ a n c, Hid (∀ W, Below w.heap.size w W → SlAt W a (b u)) ∧ (b u).length = n ∧ n ≤ 50000 ∧ ∀ W, Below w.heap.size w W → W.cell? ⟨S, u, none⟩ = some (.slice a n c)) := fun u hu => by
    obtain ⟨a, n, c, e, s, -⟩ := h.out.bv.bx u hu
    refine ⟨a, n, c, fun W hb => s.at_.later hb, s.len, ?_, fun W hb => cell_later hb (h.out.bk.c u _ e)⟩
    have := manyX_at 64 b u hu
    have := s.len
    omega
  have PT : Hid (∀ (u : Nat) (e : Sl) (W : World), u < 64 → e ∈ b u → Calls Tryz.prog 42 #[.int .i64 (u : Int), .string (st e.1), .string (st e.2)] W fun e' w' => e' = .returned (.string (st (putR u e.1 e.2))) ∧ Below W.heap.size W w') := fun u e W hu he => xput_any u hu e.1 e.2 (okI_len (gb.i u e he).1) (gb.i u e he).2 W
  have AP : Hid (∀ (W : World) (v : Value) (L : List Bs) (t : Bs), W.ownsRow w.heap.size 9 1 v L.length (scs L) → w.heap.size ≤ W.heap.size → L.length ≤ 1000000 → _) := fun W v L t h1 h2 h3 => app_str1 w.heap.size W 37 v L h1 h2 h3 t
  have LN : Hid (∀ u, u ≤ 64 → (shU b u).length ≤ 50000) := fun u hu => by rw [shU_len]; exact Nat.le_trans (manyX_mono b hu) hm
  have FIN : Hid (∀ (W : World) (v : Value), W.ownsRow w.heap.size 9 1 v (shU b 64).length (scs (shU b 64)) → Below w.heap.size w W → ∃ a c, v = .slice a (shX b).length c ∧ Hid (TxAt W a (shX b) ∧ (∀ x, a = some x → w.heap.size ≤ x.block) ∧ Below w.heap.size w W)) := fun W v o hb => by
    rw [shU_all] at o
    obtain ⟨a, c, e, t, -⟩ := owns_tx rfl o
    refine ⟨a, c, e, t, fun x hx => ?_, hb⟩
    have := o.lt x.block (by rw [e, hx]; rfl)
    exact this.1
  have MK : Hid (∀ u k (hk : k < (b u).length), (((b u).take (k + 1)).map fun e => putR u e.1 e.2) = (((b u).take k).map fun e => putR u e.1 e.2) ++ [putR u (b u)[k].1 (b u)[k].2]) := fun u k hk => by rw [List.take_succ_eq_append_getElem hk, List.map_append]; rfl
  clear h hm gb
  go_enter Tryz.func72, Tryz.ntmps72
  go_wp2_with fail
  go_loopw [3, 10] (fun sl i wr => ∃ u : Nat, u ≤ 64 ∧ i = .int .i64 (u : Int) ∧ Hid (wr.ownsRow w.heap.size 9 1 sl (shU b u).length (scs (shU b u)) ∧ Below w.heap.size w wr)) (fun _ i _ => 64 - (intOf i).toNat)
  case atStart => exact ⟨0, by omega, rfl, World.ownsRow_nil _ _ _ _, Below.refl _ _⟩
  case round =>
    obtain ⟨u, hu, rfl, I⟩ := hrel
    by_cases hlt : u < 64
    · have g1 : (u : Int) < 64 := by omega
      have g0 : (0 : Int) ≤ (u : Int) := by omega
      obtain ⟨a, n, c, SA, hn, hnb, cu⟩ := BX.out u hlt
      have HN : Hid ((b u).length = n) := hn
      have cu1 := cu wr I.out.2
      have I1 : Hid (wr.drew.ownsRow w.heap.size 9 1 u3 (shU b u).length (scs (shU b u)) ∧ Below w.heap.size w wr.drew) := ⟨I.out.1, I.out.2.drew⟩
      clear hn I cu
      go_wp2_with fail
      go_region_held3 (fun w' => w'.cell? ⟨S, u, none⟩ = some (.slice a n c)) (first | exact cu1 | assumption) (fail)
      clear cu1
      go_wp2_with fail
      go_loopw [3, 18] (fun sl i wx => ∃ k : Nat, k ≤ n ∧ i = .int .i64 (k : Int) ∧ Hid (wx.ownsRow w.heap.size 9 1 sl (shU b u ++ ((b u).take k).map fun e => putR u e.1 e.2).length (scs (shU b u ++ ((b u).take k).map fun e => putR u e.1 e.2)) ∧ Below w.heap.size w wx)) (fun _ i _ => n - (intOf i).toNat)
      case atStart => exact ⟨0, by omega, rfl, ⟨by rw [List.take_zero, List.map_nil, List.append_nil]; exact I1.out.1, I1.out.2⟩⟩
      case round =>
        obtain ⟨k, hk, rfl, J⟩ := hrel
        clear I1
        by_cases hkn : k < n
        · have hkl : k < (b u).length := by rw [HN.out]; exact hkn
          have g2 : (k : Int) < (n : Int) := by omega
          obtain ⟨b1, o1, rfl, c0, c1⟩ := (SA.out _ J.out.2) k hkl
          have nb1 := nb wr (.cells #[.string (st (b u)[k].1), .string (st (b u)[k].2)] 58)
          have P1 : Hid _ := PT.out u (b u)[k] (wr.alloc (.cells #[.string (st (b u)[k].1), .string (st (b u)[k].2)] 58)) hlt (List.getElem_mem hkl)
          have M1 := MK.out u k hkl
          have L1 : (shU b u ++ ((b u).take k).map fun e => putR u e.1 e.2).length ≤ 1000000 := by
            rw [List.length_append, List.length_map, List.length_take]
            have := LN.out u (by omega)
            omega
          have A1 : Hid (∀ W, Below (wr.alloc (.cells #[.string (st (b u)[k].1), .string (st (b u)[k].2)] 58)).heap.size (wr.alloc (.cells #[.string (st (b u)[k].1), .string (st (b u)[k].2)] 58)) W → ∃ v' W2, (Builtin.append_ #[37, 37] 37 #[u3, .slice (some ⟨W.heap.size, 0, none⟩) 1 1]).run Tryz.prog (W.alloc (.cells #[.string (st (putR u (b u)[k].1 (b u)[k].2))] 9)) = .ok v' W2 ∧ Hid (W2.ownsRow w.heap.size 9 1 v' (shU b u ++ ((b u).take (k + 1)).map fun e => putR u e.1 e.2).length (scs (shU b u ++ ((b u).take (k + 1)).map fun e => putR u e.1 e.2)) ∧ Below w.heap.size w W2)) := fun W hb => by
            have hbw := chain nb1 hb
            have ow := owns_laterS J.out.1 hbw
            have s1 := J.out.2.size
            have s2 := hbw.size
            obtain ⟨v', W2, r1, r2, r3⟩ := AP.out W u3 _ (putR u (b u)[k].1 (b u)[k].2) ow (by omega) L1
            refine ⟨v', W2, r1, ?_, (chain J.out.2 hbw).trans r3⟩
            rw [M1, ← List.append_assoc]
            exact r2
          unfold sv at c0 c1
          obtain ⟨X1, hX1⟩ : ∃ X, st (b u)[k].1 = X := ⟨_, rfl⟩
          obtain ⟨X2, hX2⟩ : ∃ X, st (b u)[k].2 = X := ⟨_, rfl⟩
          obtain ⟨X3, hX3⟩ : ∃ X, st (putR u (b u)[k].1 (b u)[k].2) = X := ⟨_, rfl⟩
          rw [hX1] at c0
          rw [hX2] at c1
          rw [hX1, hX2, hX3] at P1 A1
          clear hX1 hX2 hX3 J M1 L1 nb1
          go_wp2_with fail
          refine Calls.mono P1.out ?_
          rintro e w4 ⟨rfl, hb4⟩
          obtain ⟨v', W5, r1, F5⟩ := A1.out _ hb4
          have R1 : Hid _ := r1
          clear P1 A1 hb4 r1 c0 c1
          go_wp2_with (at_builtin; refine Go.Lib.wpList_append_run _ rfl _ _ _ _ rfl _ _ rfl rfl _ _ R1.out ?_)
          go_roundw
          case rel => exact ⟨k + 1, by omega, by go_num, F5.out⟩
          case measure => simp [intOf]; omega
        · obtain rfl : k = n := by omega
          have J2 : Hid (wr.ownsRow w.heap.size 9 1 u3 (shU b (u + 1)).length (scs (shU b (u + 1))) ∧ Below w.heap.size w wr) := by
            rw [shU_succ]
            have := J.out
            rw [List.take_of_length_le (by rw [HN.out]; exact Nat.le_refl _)] at this
            exact this
          clear J
          go_wp2
          go_roundw
          case rel => exact ⟨u + 1, by omega, by go_num, J2.out⟩
          case measure => simp [intOf]; omega
    · obtain rfl : u = 64 := by omega
      obtain ⟨a, c, rfl, F5⟩ := FIN.out _ _ I.out.1 I.out.2
      clear I FIN
      go_wp2
      go_ret
      exact ⟨a, c, rfl, F5.out⟩
end Go.Proofs.YtjpaodepnacimaaGreatDoor
namespace Go.Proofs.YtjpaodepnacimaaGreatDoor
open Go.RowKit Go.Proofs.Fd Go.Proofs.Dk Go.Proofs.Lg Go.Proofs.Bx
set_option maxRecDepth 20000
def LF (vs : List Value) (z : Nat) : Prop := ∃ (u : Nat) (a : Option Addr) (n c : Nat) (x : Addr), vs[u]? = some (.slice a n c) ∧ a = some x ∧ 0 < n ∧ z = x.block
theorem Bvs.own {K : Nat → Prop} {w : World} {vs : List Value} {b : Bxs} (h : Bvs K w vs b) : Bvs (LF vs) w vs b := ⟨h.ln, fun u hu => by
  obtain ⟨a, n, c, e, s, -⟩ := h.bx u hu
  exact ⟨a, n, c, e, s, fun x ex h0 => ⟨u, a, n, c, x, e, ex, h0, rfl⟩⟩⟩
theorem Bvs.lf {K : Nat → Prop} {w : World} {vs : List Value} {b : Bxs} (h : Bvs K w vs b) {z : Nat} (hz : LF vs z) : K z ∧ z < w.heap.size := by
  obtain ⟨u, a, n, c, x, e, ex, h0, rfl⟩ := hz
  have hu : u < 64 := by
    have := (List.getElem?_eq_some_iff.1 e).1
    rw [h.ln] at this
    exact this
  obtain ⟨a', n', c', e', s, k⟩ := h.bx u hu
  rw [e] at e'
  obtain ⟨rfl, rfl, rfl⟩ : a = a' ∧ n = n' ∧ c = c' := by
    have := Option.some.inj e'
    injection this with h1 h2 h3
    exact ⟨h1, h2, h3⟩
  exact ⟨k x ex h0, s.at_.lt x ex (by rw [s.len]; exact h0)⟩
abbrev bxc (q : Nat) (vs : List Value) (quota : Nat) : List Value := .pointer (some ⟨q, 0, none⟩) :: (vs ++ [.int .i64 (quota : Int)])
def FB (F : Nat → Prop) (q : Nat) (v : Value) (b : Nat) (vs : List Value) (z : Nat) : Prop := FH F q v z ∨ z = b ∨ LF vs z
structure Py (w wr : World) (p : Nat) (F : Nat → Prop) (s : St) (q : Nat) (v : Value) (x : Lo) (b quota : Nat) (vs : List Value) (bx : Bxs) : Prop where
  lz : Lz w wr p F s q v x
  bk : Blk wr b (bxc q vs quota)
  bv : Bvs (LF vs) wr vs bx
  ap : ∀ z, LF vs z → ¬ FH F q v z ∧ z ≠ b ∧ w.heap.size ≤ z
  nb : ¬ FH F q v b ∧ w.heap.size ≤ b
def PyP (w w0 : World) (F0 : Nat → Prop) (p q b quota : Nat) (s : St) (x : Lo) (bx : Bxs) (w' : World) : Prop := ∃ F v vs, Py w w' p F s q v x b quota vs bx ∧ Nx w0 F0 (FB F q v b vs) ∧ Bf F0 w0 w'
section
variable {w w0 : World} {F0 : Nat → Prop} {p q b quota : Nat} {s : St} {x : Lo} {bx : Bxs} {w1 : World}
theorem Py.later {F : Nat → Prop} {v : Value} {vs : List Value} (k : Py w w1 p F s q v x b quota vs bx) {w2 : World} (hb : Below w1.heap.size w1 w2) : Py w w2 p F s q v x b quota vs bx := ⟨k.lz.later hb, k.bk.later hb, k.bv.later hb, k.ap, k.nb⟩
theorem Py.lt {F : Nat → Prop} {v : Value} {vs : List Value} (k : Py w w1 p F s q v x b quota vs bx) {z : Nat} (hz : FB F q v b vs z) : z < w1.heap.size ∧ w.heap.size ≤ z := by
  rcases hz with c | c | c
  · exact k.lz.fh c
  · rw [c]; exact ⟨k.bk.lt, k.nb.2⟩
  · exact ⟨(k.bv.lf c).2, (k.ap z c).2.2⟩
theorem PyP.later (k : PyP w w0 F0 p q b quota s x bx w1) {w2 : World} (hb : Below w1.heap.size w1 w2) : PyP w w0 F0 p q b quota s x bx w2 := by
  obtain ⟨F, v, vs, z, n, f⟩ := k
  exact ⟨F, v, vs, z.later hb, n, f.later hb⟩
theorem PyP.trans {F1 : Nat → Prop} {w2 : World} (k : PyP w w1 F1 p q b quota s x bx w2) (hn : Nx w0 F0 F1) (hf : Bf F0 w0 w1) : PyP w w0 F0 p q b quota s x bx w2 := by
  obtain ⟨F, v, vs, z, n, f⟩ := k
  exact ⟨F, v, vs, z, hn.trans n hf.size, hf.trans hn f⟩
theorem Py.start {F : Nat → Prop} {v : Value} {vs : List Value} (k : Py w w1 p F s q v x b quota vs bx) : PyP w w1 (FB F q v b vs) p q b quota s x bx w1 := ⟨F, v, vs, k, Nx.refl _ _, Bf.refl _ _⟩
theorem Py.log {F : Nat → Prop} {v : Value} {vs : List Value} (k : Py w w1 p F s q v x b quota vs bx) {w2 : World} {s' : St} {x' : Lo} (z : LzP w w1 p F q v s' x' w2) (hn : Nx w0 F0 (FB F q v b vs)) (hf : Bf F0 w0 w1) : PyP w w0 F0 p q b quota s' x' bx w2 := by
  obtain ⟨F', v', r, n1, f⟩ := z
  have nq := n1.fh
  have hs := hf.size
  refine ⟨F', v', vs, ⟨r, k.bk.bf f k.nb.1, k.bv.bf f (fun g hg => (k.ap g hg).1), fun g hg => ⟨nq.apart (k.ap g hg).1 (k.bv.lf hg).2, (k.ap g hg).2⟩, nq.apart k.nb.1 k.bk.lt, k.nb.2⟩, fun g hg => ?_, hf.trans hn (f.wide fun g e => .inl e)⟩
  rcases hg with e | e
  · rcases nq g e with c | c
    · exact hn g (.inl c)
    · exact .inr (by omega)
  · exact hn g (.inr e)
theorem Blk.put_mid {w : World} {b q : Nat} {vs : List Value} {quota : Nat} (h : Blk w b (bxc q vs quota)) (us : List Value) (hl : us.length = vs.length) : Blk (w.setCells b 1 us) b (bxc q us quota) := by
  have ht : ∀ i, i < us.length → (w.cell? ⟨b, 1 + i, none⟩).isSome = true := fun i hi => by
    have := (h.there (1 + i) (by simp; omega)).1
    rw [Nat.zero_add] at this
    exact this
  refine ⟨fun j u hj => ?_, fun o => ?_, by simp⟩
  · rw [Nat.zero_add]
    by_cases h0 : j = 0
    · subst h0
      rw [World.cell?_setCells_out b us 1 w _ (fun _ _ => .inl (by show 0 < 1; decide))]
      have := h.c 0 _ rfl
      rw [this]
      exact hj
    · by_cases h1 : j - 1 < us.length
      · have e : j = 1 + (j - 1) := by omega
        rw [e, World.cell?_setCells_in b us 1 w ht (j - 1) h1]
        rw [e, Nat.add_comm 1, List.getElem?_cons_succ, List.getElem?_append_left h1, List.getElem?_eq_getElem h1] at hj
        exact hj
      · rw [World.cell?_setCells_out b us 1 w _ (fun _ _ => .inr (by show 1 + us.length ≤ j; omega))]
        refine h.c j u ?_
        rw [← hj]
        have e : j = (j - 1) + 1 := by omega
        rw [e, List.getElem?_cons_succ, List.getElem?_cons_succ, List.getElem?_append_right (by omega), List.getElem?_append_right (by omega), hl]
  · rw [frozen_setCells]
    exact h.f o
theorem Py.set {F : Nat → Prop} {v : Value} {vs us : List Value} {K : Nat → Prop} {c : Bxs} (k : Py w w1 p F s q v x b quota vs bx) (hv : Bvs K w1 us c) (hK : ∀ z, K z → z < w1.heap.size → (LF vs z ∨ w0.heap.size ≤ z) ∧ ¬ FH F q v z ∧ z ≠ b ∧ w.heap.size ≤ z) (hn : Nx w0 F0 (FB F q v b vs)) (hf : Bf F0 w0 w1) : PyP w w0 F0 p q b quota s x c (w1.setCells b 1 us) := by
  have bf : Bf (fun z => z = b) w1 (w1.setCells b 1 us) := Bf.sets (fun z => z = b) b rfl us 1 w1
  have hu : us.length = vs.length := by rw [hv.ln, k.bv.ln]
  have own := hv.own
  have hz : ∀ z, LF us z → (LF vs z ∨ w0.heap.size ≤ z) ∧ ¬ FH F q v z ∧ z ≠ b ∧ w.heap.size ≤ z := fun z c => by
    obtain ⟨k1, k2⟩ := hv.lf c
    exact hK z k1 k2
  refine ⟨F, v, us, ⟨k.lz.other bf (fun g hg e => k.nb.1 (by rw [← e]; exact hg)) (fun g e => by rw [e]; exact k.nb.2), k.bk.put_mid us hu, own.bf bf (fun g hg e => (hz g hg).2.2.1 e), fun g hg => (hz g hg).2, k.nb⟩, fun g hg => ?_, hf.trans hn (bf.wide fun g e => .inr (.inl e))⟩
  rcases hg with e | e | e
  · exact hn g (.inl e)
  · exact hn g (.inr (.inl e))
  · rcases (hz g e).1 with c | c
    · exact hn g (.inr (.inr c))
    · exact .inr c
end
def PyL (w w1 : World) (F : Nat → Prop) (v : Value) (p q b quota : Nat) (vs : List Value) (s : St) (x : Lo) (bx : Bxs) (w' : World) : Prop := ∃ F' v', Py w w' p F' s q v' x b quota vs bx ∧ Nx w1 (FH F q v) (FH F' q v') ∧ Bf (FH F q v) w1 w'
theorem Py.log1 {w w1 : World} {p q b quota : Nat} {s : St} {x : Lo} {bx : Bxs} {F : Nat → Prop} {v : Value} {vs : List Value} (k : Py w w1 p F s q v x b quota vs bx) {w2 : World} {s' : St} {x' : Lo} (z : LzP w w1 p F q v s' x' w2) : PyL w w1 F v p q b quota vs s' x' bx w2 := by
  obtain ⟨F', v', r, n1, f⟩ := z
  have nq := n1.fh
  exact ⟨F', v', ⟨r, k.bk.bf f k.nb.1, k.bv.bf f (fun g hg => (k.ap g hg).1), fun g hg => ⟨nq.apart (k.ap g hg).1 (k.bv.lf hg).2, (k.ap g hg).2⟩, nq.apart k.nb.1 k.bk.lt, k.nb.2⟩, nq, f⟩
theorem PyL.trans {w w1 w2 w3 : World} {p q b quota : Nat} {s : St} {x : Lo} {bx : Bxs} {F F1 : Nat → Prop} {v v1 : Value} {vs : List Value} (k : PyL w w2 F1 v1 p q b quota vs s x bx w3) (n : Nx w1 (FH F q v) (FH F1 q v1)) (f : Bf (FH F q v) w1 w2) : PyL w w1 F v p q b quota vs s x bx w3 := by
  obtain ⟨F', v', z, n2, f2⟩ := k
  exact ⟨F', v', z, n.trans n2 f.size, f.trans n f2⟩
theorem PyL.later {w w1 w2 w3 : World} {p q b quota : Nat} {s : St} {x : Lo} {bx : Bxs} {F : Nat → Prop} {v : Value} {vs : List Value} (k : PyL w w1 F v p q b quota vs s x bx w2) (hb : Below w2.heap.size w2 w3) : PyL w w1 F v p q b quota vs s x bx w3 := by
  obtain ⟨F', v', z, n2, f2⟩ := k
  exact ⟨F', v', z.later hb, n2, f2.later hb⟩
theorem apX_kp (s : St) (x : Lo) (r : Bs) : (app s x r).1.2.l.length ≤ s.l.length + 40 := (app_len s x r).1
set_option maxHeartbeats 4000000 in
theorem xappend_any (w : World) (p q b quota : Nat) (s : St) (x : Lo) (bx : Bxs) (F : Nat → Prop) (v : Value) (vs : List Value) (a : Option Addr) (n c : Nat) (rs : List Bs) (hn : rs.length = n) (hnb : n ≤ 1000) (hl : s.l.length + 50000 ≤ 1000000) (hk : Hid (Kh w)) (w1 : World) (k : Hid (Py w w1 p F s q v x b quota vs bx)) (tx : Hid (TxAt w1 a rs)) (hap : Hid (∀ y, a = some y → 0 < rs.length → y.block < w1.heap.size ∧ ¬ FH F q v y.block)) :
    Calls Tryz.prog 70 #[.pointer (some ⟨b, 0, none⟩), .slice a n c] w1 fun e w' => e = .returned (.int .i64 (apX s x rs).1.1) ∧ PyL w w1 F v p q b quota vs (apX s x rs).1.2 (apX s x rs).2 bx w' := by
  have HN : Hid (rs.length = n) := hn
  have CL : Hid (∀ W s x bx, PyL w w1 F v p q b quota vs s x bx W → W.cell? ⟨b, 0, none⟩ = some (.pointer (some ⟨q, 0, none⟩)) ∧ Hid (TxAt W a rs)) := fun W s x bx ⟨F', v', z, n, f⟩ => ⟨z.bk.c 0 _ rfl, fun i hi => by
    obtain ⟨y, o, e, cc⟩ := tx.out i hi
    exact ⟨y, o, e, f.cell cc (hap.out _ e (by omega)).2⟩⟩
  have AP : Hid (∀ W s x (r : Bs), s.l.length + 100 ≤ 1000000 → PyL w w1 F v p q b quota vs s x bx W → Calls Tryz.prog 52 #[.pointer (some ⟨q, 0, none⟩), .string (st r)] W fun e w' => e = .returned (.int .i64 (app s x r).1.1) ∧ Hid (PyL w w1 F v p q b quota vs (app s x r).1.2 (app s x r).2 bx w')) := fun W s x r hl ⟨F', v', z, n, f⟩ =>
    (lzappend_any w W p F' s q v' x (st r) hl hk.out z.lz).mono fun _ _ ⟨e1, e2⟩ => ⟨e1, (z.log1 e2).trans n f⟩
  obtain ⟨R, hR⟩ : ∃ R, apX s x rs = R := ⟨_, rfl⟩
  have I0 : Hid (apX s x rs = R ∧ PyL w w1 F v p q b quota vs s x bx w1 ∧ s.l.length ≤ s.l.length + 40 * 0) := ⟨hR, ⟨F, v, k.out, Nx.refl _ _, Bf.refl _ _⟩, by omega⟩
  rw [hR]
  clear hn k tx hap hR
  obtain ⟨N0, hN0⟩ : ∃ N, s.l.length = N := ⟨_, rfl⟩
  rw [hN0] at hl
  have I1 : Hid (∃ s' x', apX s' x' (rs.drop 0) = R ∧ PyL w w1 F v p q b quota vs s' x' bx w1 ∧ s'.l.length ≤ N0 + 40 * 0) := ⟨s, x, I0.out.1, I0.out.2.1, by omega⟩
  clear I0 hN0
  go_enter Tryz.func70, Tryz.ntmps70
  go_wp2_with fail
  go_loopw [10] (fun i wr => ∃ k : Nat, k ≤ n ∧ i = .int .i64 (k : Int) ∧ Hid (∃ s' x', apX s' x' (rs.drop k) = R ∧ PyL w w1 F v p q b quota vs s' x' bx wr ∧ s'.l.length ≤ N0 + 40 * k)) (fun i _ => n - (intOf i).toNat)
  case atStart => exact ⟨0, Nat.zero_le _, rfl, I1.out⟩
  case round =>
    obtain ⟨k, hk1, rfl, I⟩ := hrel
    clear I1
    obtain ⟨s', x', e1, py, sl⟩ := I.out
    by_cases hlt : k < n
    · have hkl : k < rs.length := by rw [HN.out]; exact hlt
      have g1 : (k : Int) < (n : Int) := by omega
      obtain ⟨c0, TX⟩ := CL.out _ _ _ _ py
      obtain ⟨b1, o1, rfl, c1⟩ := TX.out k hkl
      rw [List.drop_eq_getElem_cons hkl, apX] at e1
      have A1 : Hid _ := AP.out wr s' x' rs[k] (by omega) py
      have hkp := apX_kp s' x' rs[k]
      unfold sv at c1
      obtain ⟨X, hX⟩ : ∃ X, st rs[k] = X := ⟨_, rfl⟩
      rw [hX] at c1 A1
      by_cases h0 : (app s' x' rs[k]).1.1 = 0
      · rw [if_pos h0] at e1
        rw [h0] at A1
        have E1 : Hid _ := e1
        have KP : Hid _ := hkp
        have SL : Hid _ := sl
        clear e1 hX TX I py hkp sl h0
        go_wp2_with fail
        refine Calls.mono A1.out ?_
        rintro e w5 ⟨rfl, H5⟩
        clear A1 c0 c1
        go_wp2
        go_roundw
        case rel => exact ⟨k + 1, by omega, by go_num, _, _, E1.out, H5.out, by have := KP.out; have := SL.out; omega⟩
        case measure => simp [intOf]; omega
      · rw [if_neg h0] at e1
        have E1 : Hid _ := e1
        obtain ⟨z, hz⟩ : ∃ z, (app s' x' rs[k]).1.1 = z := ⟨_, rfl⟩
        rw [hz] at A1 h0
        have EZ : Hid (z = R.1.1) := by rw [← e1, hz]; rfl
        clear e1 hX TX I py hkp sl hz
        go_wp2_with fail
        refine Calls.mono A1.out ?_
        rintro e w5 ⟨rfl, H5⟩
        clear A1 c0 c1
        go_wp2
        go_ret
        refine ⟨by rw [← EZ.out]; rfl, ?_⟩
        rw [← E1.out]
        exact H5.out
    · obtain rfl : k = n := by omega
      have g1 : ¬ (k : Int) < (k : Int) := by omega
      rw [List.drop_of_length_le (by rw [HN.out]; exact Nat.le_refl _), apX] at e1
      have FF : Hid ((0 : Int) = R.1.1 ∧ PyL w w1 F v p q b quota vs R.1.2 R.2 bx wr) := by rw [← e1]; exact ⟨rfl, py⟩
      clear e1 I py sl
      go_wp2
      go_ret
      exact ⟨by rw [← FF.out.1]; rfl, FF.out.2⟩
end Go.Proofs.YtjpaodepnacimaaGreatDoor
