/- Write. -/
import Derived.Test.YtjpaodepnacimaaGreatDoorZbG09
namespace Go.Proofs.YtjpaodepnacimaaGreatDoor
open Go.RowKit Go.Proofs.Fd Go.Proofs.Dk
set_option maxRecDepth 20000
theorem Raw.wrote {w : World} {p : Nat} {s : St} {a b : Nat} {v : Value} {x : Wt} (h : Raw w p s.n s.down s.fuse s.f (upd s.sh x.k x.b) s.l a b v) {w1 : World} (hg : w.grownBy w1 v.ownBlock) {u : Value} (ho : OwnsW w1 u (s.l ++ [x])) (hl : u.ownBlock = v.ownBlock ∨ u.ownBlock = some w.heap.size) (hk : Ok { s with l := s.l ++ [x] }) :
    (∃ F', KAt (w1.setCell ⟨p, 4, none⟩ u) p F' { s with l := s.l ++ [x] } ∧ Nx w (Foot p a b v) F') ∧ Bf (Foot p a b v) w (w1.setCell ⟨p, 4, none⟩ u) := by
  obtain ⟨r1, r2, r3⟩ := h.setRow hg ho (fun g e => by
    rcases hl with h1 | h1
    · exact .inl (h1.symm.trans e)
    · rw [h1] at e
      injection e with e
      exact .inr (by omega))
  refine ⟨⟨Foot p a b u, ⟨hk, a, b, u, rfl, ?_⟩, r2⟩, r3⟩
  have e : St.sh { s with l := s.l ++ [x] } = upd s.sh x.k x.b := lay_app _ _ _
  rw [e]
  exact r1
theorem wrote_all (W : World) (p n : Nat) (dn : Bool) (fu : Nat) (f : Nat → Bs) (l : List Wt) (a b : Nat) (v : Value) (x : Wt) (R : Raw W p n dn fu f (upd (lay f l) x.k x.b) l a b v) (hl : l.length ≤ 1000000) (hx : x.b.length = 64) (hk : Ok ⟨n, f, l ++ [x], fu, dn⟩) :
    ∃ va vc w', (Builtin.append_ #[67, 67] 67 #[v, .slice (some ⟨W.heap.size, 0, none⟩) 1 1]).run Tryz.prog (W.alloc (.cells (wc x).toArray 149)) = .ok (.slice va (l ++ [x]).length vc) w'
      ∧ w'.cell? ⟨p, 4, none⟩ = some v ∧ w'.frozen? ⟨p, 4, none⟩ = false
      ∧ (∃ F', KAt (w'.setCell ⟨p, 4, none⟩ (.slice va (l ++ [x]).length vc)) p F' ⟨n, f, l ++ [x], fu, dn⟩ ∧ Nx W (Foot p a b v) F') ∧ Bf (Foot p a b v) W (w'.setCell ⟨p, 4, none⟩ (.slice va (l ++ [x]).length vc)) := by
  have nb : Below W.heap.size W (W.alloc (.cells (wc x).toArray 149)) := (Below.refl _ _).alloc (Nat.le_refl _) _
  have R1 := R.later nb
  obtain ⟨va, vc, w', r1, r2, r3, r4⟩ := app_w (W.alloc (.cells (wc x).toArray 149)) 67 v l R1.row hl x hx W.heap.size (fun j u hu => by
    rw [Nat.zero_add, World.cell?_alloc_new]
    simpa using hu)
  have hp : w'.heap[p]? = _ := r3.block p (R1.lt (.inl rfl)) (fun e => R1.pv e.symm)
  have := Raw.wrote (s := ⟨n, f, l, fu, dn⟩) R1 r3 r2 r4 hk
  obtain ⟨⟨F', k1, k2⟩, k3⟩ := this
  exact ⟨va, vc, w', r1, (World.cell?_of_block (a := ⟨p, 4, none⟩) hp).trans R1.c4, (World.frozen?_of_block (a := ⟨p, 4, none⟩) hp).trans (R1.fr 4), ⟨F', k1, (Nx.refl W _).trans k2 nb.size⟩, (Bf.of nb).trans (Nx.refl _ _) k3⟩
def opw0 : Oper := { dst := some 28, op := Go.Op.move (Go.Operand.tmp 0), type := 23, pos := "disk.go:68", after := #[], guard := none }
def opw1 : Oper := { dst := some 29, op := Go.Op.move (Go.Operand.tmp 0), type := 23, pos := "disk.go:68", after := #[], guard := none }
def opw2 : Oper := { dst := some 30, op := Go.Op.nilCheck (Go.Operand.tmp 29), type := 0, pos := "disk.go:68", after := #[{ on := 1, ground := Go.Ground.data }], guard := none }
def opw3 : Oper := { dst := some 31, op := Go.Op.fieldAddr 69 (Go.Operand.tmp 30) 4, type := 0, pos := "disk.go:68", after := #[{ on := 2, ground := Go.Ground.data }], guard := none }
def opw4 : Oper := { dst := some 32, op := Go.Op.load 67 (Go.Operand.tmp 31), type := 67, pos := "disk.go:68", after := #[{ on := 3, ground := Go.Ground.data }], guard := none }
def opw5 : Oper := { dst := some 33, op := Go.Op.move (Go.Operand.tmp 1), type := 3, pos := "disk.go:68", after := #[], guard := none }
def opw6 : Oper := { dst := some 34, op := Go.Op.move (Go.Operand.tmp 0), type := 23, pos := "disk.go:68", after := #[], guard := none }
def opw7 : Oper := { dst := some 35, op := Go.Op.nilCheck (Go.Operand.tmp 34), type := 0, pos := "disk.go:68", after := #[{ on := 6, ground := Go.Ground.data }], guard := none }
def opw8 : Oper := { dst := some 36, op := Go.Op.fieldAddr 69 (Go.Operand.tmp 35) 3, type := 0, pos := "disk.go:68", after := #[{ on := 7, ground := Go.Ground.data }], guard := none }
def opw9 : Oper := { dst := some 37, op := Go.Op.load 66 (Go.Operand.tmp 36), type := 66, pos := "disk.go:68", after := #[{ on := 8, ground := Go.Ground.data }], guard := none }
def opw10 : Oper := { dst := some 38, op := Go.Op.move (Go.Operand.tmp 1), type := 3, pos := "disk.go:68", after := #[], guard := none }
def opw11 : Oper := { dst := some 39, op := Go.Op.indexAddr 66 (Go.Operand.tmp 37) (Go.Operand.tmp 38), type := 0, pos := "disk.go:68", after := #[{ on := 9, ground := Go.Ground.data }, { on := 10, ground := Go.Ground.data }], guard := none }
def opw12 : Oper := { dst := some 40, op := Go.Op.load 96 (Go.Operand.tmp 39), type := 96, pos := "disk.go:68", after := #[{ on := 11, ground := Go.Ground.data }], guard := none }
def opw13 : Oper := { dst := some 41, op := Go.Op.build 149 #[(0, Go.Operand.tmp 33), (1, Go.Operand.tmp 40)], type := 149, pos := "disk.go:68", after := #[{ on := 5, ground := Go.Ground.data }, { on := 12, ground := Go.Ground.data }], guard := none }
def opw14 : Oper := { dst := some 42, op := Go.Op.buildSlice 67 1 #[(0, Go.Operand.tmp 41)], type := 67, pos := "disk.go:68", after := #[{ on := 13, ground := Go.Ground.data }], guard := none }
def opw15 : Oper := { dst := some 43, op := Go.Op.call { callee := Go.Callee.builtin Go.Builtin.append, args := #[Go.Operand.tmp 32, Go.Operand.tmp 42], argTypes := #[67, 67] }, type := 67, pos := "disk.go:68", after := #[{ on := 4, ground := Go.Ground.data }, { on := 14, ground := Go.Ground.data }], guard := none }
def opw16 : Oper := { dst := some 44, op := Go.Op.nilCheck (Go.Operand.tmp 28), type := 0, pos := "disk.go:68", after := #[{ on := 0, ground := Go.Ground.data }, { on := 0, ground := Go.Ground.phase }, { on := 1, ground := Go.Ground.phase }, { on := 2, ground := Go.Ground.phase }, { on := 3, ground := Go.Ground.phase }, { on := 4, ground := Go.Ground.phase }, { on := 5, ground := Go.Ground.phase }, { on := 6, ground := Go.Ground.phase }, { on := 7, ground := Go.Ground.phase }, { on := 8, ground := Go.Ground.phase }, { on := 9, ground := Go.Ground.phase }, { on := 10, ground := Go.Ground.phase }, { on := 11, ground := Go.Ground.phase }, { on := 12, ground := Go.Ground.phase }, { on := 13, ground := Go.Ground.phase }, { on := 14, ground := Go.Ground.phase }, { on := 15, ground := Go.Ground.phase }], guard := none }
def opw17 : Oper := { dst := some 45, op := Go.Op.fieldAddr 69 (Go.Operand.tmp 44) 4, type := 0, pos := "disk.go:68", after := #[{ on := 16, ground := Go.Ground.data }, { on := 0, ground := Go.Ground.phase }, { on := 1, ground := Go.Ground.phase }, { on := 2, ground := Go.Ground.phase }, { on := 3, ground := Go.Ground.phase }, { on := 4, ground := Go.Ground.phase }, { on := 5, ground := Go.Ground.phase }, { on := 6, ground := Go.Ground.phase }, { on := 7, ground := Go.Ground.phase }, { on := 8, ground := Go.Ground.phase }, { on := 9, ground := Go.Ground.phase }, { on := 10, ground := Go.Ground.phase }, { on := 11, ground := Go.Ground.phase }, { on := 12, ground := Go.Ground.phase }, { on := 13, ground := Go.Ground.phase }, { on := 14, ground := Go.Ground.phase }, { on := 15, ground := Go.Ground.phase }], guard := none }
def opw18 : Oper := { dst := none, op := Go.Op.store 67 (Go.Operand.tmp 45) (Go.Operand.tmp 43), type := 0, pos := "disk.go:68", after := #[{ on := 17, ground := Go.Ground.data }, { on := 15, ground := Go.Ground.data }, { on := 15, ground := Go.Ground.chain }, { on := 0, ground := Go.Ground.phase }, { on := 1, ground := Go.Ground.phase }, { on := 2, ground := Go.Ground.phase }, { on := 3, ground := Go.Ground.phase }, { on := 4, ground := Go.Ground.phase }, { on := 5, ground := Go.Ground.phase }, { on := 6, ground := Go.Ground.phase }, { on := 7, ground := Go.Ground.phase }, { on := 8, ground := Go.Ground.phase }, { on := 9, ground := Go.Ground.phase }, { on := 10, ground := Go.Ground.phase }, { on := 11, ground := Go.Ground.phase }, { on := 12, ground := Go.Ground.phase }, { on := 13, ground := Go.Ground.phase }, { on := 14, ground := Go.Ground.phase }, { on := 15, ground := Go.Ground.phase }], guard := none }
theorem wrE_reach {s : St} {k : Int} {t : Bs} (h : rch s k ≠ 0) : wrE s k t = rch s k ∧ wrS s k t = s := ⟨if_pos h, if_pos h⟩
theorem wrE_form {s : St} {k : Int} {t : Bs} (h : rch s k = 0) (h1 : t.length ≠ 64) : wrE s k t = 3 ∧ wrS s k t = s := by
  unfold wrE wrS
  have a : ¬ rch s k ≠ 0 := by simp [h]
  rw [if_neg a, if_neg a, if_pos h1, if_pos h1]
  exact ⟨rfl, rfl⟩
theorem wrE_fuse {s : St} {k : Int} {t : Bs} (h : rch s k = 0) (h1 : t.length = 64) (h2 : s.fuse = 1) : wrE s k t = 150 ∧ wrS s k t = brnS s := by
  unfold wrE wrS
  have a : ¬ rch s k ≠ 0 := by simp [h]
  have b : ¬ t.length ≠ 64 := by simp [h1]
  rw [if_neg a, if_neg a, if_neg b, if_neg b, if_pos h2, if_pos h2]
  exact ⟨rfl, rfl⟩
theorem wrE_ok {s : St} {k : Int} {t : Bs} (h : rch s k = 0) (h1 : t.length = 64) (h2 : s.fuse ≠ 1) : wrE s k t = 0 ∧ wrS s k t = { brnS s with l := s.l ++ [⟨k.toNat, t⟩] } := by
  unfold wrE wrS
  have a : ¬ rch s k ≠ 0 := by simp [h]
  have b : ¬ t.length ≠ 64 := by simp [h1]
  rw [if_neg a, if_neg a, if_neg b, if_neg b, if_neg h2, if_neg h2]
  exact ⟨rfl, rfl⟩
set_option maxHeartbeats 2000000 in
theorem write_any (p : Nat) (F : Nat → Prop) (s : St) (k : Int) (t : ByteArray) (w : World) (h : KAt w p F s) (hl : s.l.length ≤ 1000000) :
    Calls Tryz.prog 136 #[.pointer (some ⟨p, 0, none⟩), .int .i64 k, .string t] w fun e w' => e = .returned (.int .i64 (wrE s k t.data.toList)) ∧ Stp w p F (wrS s k t.data.toList) w' := by
  have RC : Hid _ := reach_any p F s k w h
  have ts : t.data.toList.length = t.size := by simp
  rcases rch_cases s k with ⟨h0, hd, hk0, hk1⟩ | hne
  · by_cases h64 : t.data.toList.length = 64
    · by_cases hf : s.fuse = 1
      · rw [(wrE_fuse h0 h64 hf).1, (wrE_fuse h0 h64 hf).2]
        have BN : Hid _ := burn_any p F s hd w h
        rw [h0] at RC
        have e1 : decide (s.fuse = 1) = true := decide_eq_true hf
        have hsz : t.size = 64 := by omega
        rw [e1] at BN
        clear h hd hk0 hk1 hf e1 h64 h0 ts hl
        go_enter Tryz.func136, Tryz.ntmps136
        go_wp2_with fail
        refine Calls.mono RC.out ?_
        rintro e w1 ⟨rfl, rfl⟩
        go_wp2_with fail
        refine Calls.mono BN.out ?_
        rintro e w2 ⟨rfl, h1, h2⟩
        have FF : Hid (Stp w1 p F (brnS s) w2) := ⟨F, h1, Nx.refl _ _, h2⟩
        clear h1 h2 BN RC
        go_wp2
        go_ret
        exact ⟨rfl, FF.out⟩
      · have hkk : Ok (wrS s k t.data.toList) := h.1.wr k _
        rw [(wrE_ok h0 h64 hf).2] at hkk
        rw [(wrE_ok h0 h64 hf).1, (wrE_ok h0 h64 hf).2]
        have HK : Hid _ := hkk
        have BN : Hid _ := burn_any p F s hd w h
        rw [h0] at RC
        have e1 : decide (s.fuse = 1) = false := decide_eq_false hf
        have hsz : t.size = 64 := by omega
        rw [e1] at BN
        have H64 : Hid (t.data.toList.length = 64) := h64
        have HL : Hid (s.l.length ≤ 1000000) := hl
        obtain ⟨m, rfl⟩ : ∃ m : Nat, k = (m : Int) := ⟨k.toNat, by omega⟩
        rw [Int.toNat_natCast] at HK ⊢
        clear h hd hk0 hf e1 h64 h0 ts hl hkk
        go_enter Tryz.func136, Tryz.ntmps136
        go_wp2_with fail
        refine Calls.mono RC.out ?_
        rintro e w0 ⟨rfl, rfl⟩
        go_wp2_with fail
        refine Calls.mono BN.out ?_
        rintro e w1 ⟨rfl, h1, h2⟩
        obtain ⟨ho, a, b, v, rfl, hr⟩ := h1
        clear BN RC
        obtain ⟨n, hn⟩ : ∃ n, s.n = n := ⟨_, rfl⟩
        have hn2 : (brnS s).n = n := hn
        have hr0 := hr
        rw [hn2] at hr0
        have hm : m < n := by omega
        have c3 := hr0.c3
        have CP := copy_in w1 b (m * 64) 64 t H64.out (hr0.sb.there hm)
        have Z1 : Hid (Bf (Foot p a b v) w0 w1) := h2
        have R1 : Hid (Raw (w1.setCells b (m * 64) (bc t.data.toList)) p (brnS s).n (brnS s).down (brnS s).fuse (brnS s).f (upd (brnS s).sh m t.data.toList) (brnS s).l a b v ∧ Bf (Foot p a b v) w0 (w1.setCells b (m * 64) (bc t.data.toList))) := ⟨hr.wholeB (by rw [hn2]; exact hm) H64.out, h2.trans (Nx.refl _ _) (Bf.sets _ b (.inr (.inr (.inl rfl))) _ _ _)⟩
        rw [hn] at hk1
        clear hr hr0 ho h2
        go_wp2_with fail
        obtain ⟨W, hW⟩ : ∃ W, w1.setCells b (m * 64) (bc t.data.toList) = W := ⟨_, rfl⟩
        rw [hW] at R1 ⊢
        clear hW CP Z1 c3
        have AA := wrote_all W.drew p (brnS s).n (brnS s).down (brnS s).fuse (brnS s).f s.l a b v ⟨m, t.data.toList⟩ (R1.out.1.later (Below.refl _ _).drew) HL.out H64.out HK.out
        obtain ⟨va, vc, w', hrun, sc', sf', ⟨F', k1, k2⟩, k3⟩ := AA
        have HB : Bf (Foot p a b v) w0 W.drew := R1.out.2.later (Below.refl _ _).drew
        have FF : Hid (Stp w0 p (Foot p a b v) _ _) := ⟨F', k1, (Nx.refl w0 _).trans k2 HB.size, HB.trans (Nx.refl _ _) k3⟩
        have SC : Hid (w'.cell? ⟨p, 4, none⟩ = some v ∧ w'.frozen? ⟨p, 4, none⟩ = false) := ⟨sc', sf'⟩
        have c3 := R1.out.1.c3
        have c4 := R1.out.1.c4
        rw [hn2] at c3
        have RG := R1.out.1.sb.at_ m (by rw [hn2]; exact hm)
        rw [upd_same] at RG
        obtain ⟨L, hL⟩ : ∃ L, (s.l ++ [(⟨m, t.data.toList⟩ : Wt)]).length = L := ⟨_, rfl⟩
        rw [hL] at hrun FF
        obtain ⟨bs, hbs⟩ : ∃ bs : Bs, t.data.toList = bs := ⟨_, rfl⟩
        rw [hbs] at RG H64 hrun
        have HR : Hid _ := hrun
        have BD : Hid (∀ w', (Instr.build 149 #[(0, .int .i64 (m : Int)), (1, .agg (bc bs).toArray)]).run Tryz.prog w' = .ok (.agg (wc ⟨m, bs⟩).toArray) w') := build_w ⟨m, bs⟩ H64.out
        have BS : Hid _ := buildS_w ⟨m, bs⟩ H64.out
        have LD : Hid (∀ w', w'.rangeAt b (m * 64) (bc bs) → (Instr.loadAt 96 (.pointer (some ⟨b, m * 64, none⟩))).run Tryz.prog w' = .ok (.agg (bc bs).toArray) w') := fun w' hh => load_c hh H64.out
        obtain ⟨Z, hZ⟩ : ∃ Z, W.drew = Z := ⟨_, rfl⟩
        have C3 : Hid (Z.cell? ⟨p, 3, none⟩ = some (.slice (some ⟨b, 0, none⟩) n n)) := by rw [← hZ]; exact c3
        have C4 : Hid (Z.cell? ⟨p, 4, none⟩ = some v) := by rw [← hZ]; exact c4
        have C5 : Hid (Z.rangeAt b (m * 64) (bc bs)) := by rw [← hZ]; exact RG
        clear R1 hL hbs hrun k1 k2 k3 HB sc' sf' c3 c4 RG HK H64 HL
        refine wp_region_noPanic ?_
        refine wp_region_held_drew (S := fun _ => True) (by kernel_rfl) (trivial) (fun hHeld => ?_)
        rw [hZ]
        rw [hZ] at HR
        clear hZ
        refine wpAnyH_take (i := 0) (oi := opw0) (v := ?_) rfl (by kernel_rfl) (by kernel_rfl) (by kernel_rfl) (fun _ _ _ h => h) (Or.inl ⟨by rfl, ?_⟩) (by assumption) ?_
        rotate_left
        · intro w' hSw
          clear hSw
          unfold opw0
          first
          | (go_simp; done)
          | (go_simp; with_reducible rfl)
        simp only [opw0, Act.put, List.setIfInBounds_toArray, List.set_cons_zero, List.set_cons_succ]
        refine wpAnyH_take (i := 1) (oi := opw1) (v := ?_) rfl (by kernel_rfl) (by kernel_rfl) (by kernel_rfl) (fun _ _ _ h => h) (Or.inl ⟨by rfl, ?_⟩) (by assumption) ?_
        rotate_left
        · intro w' hSw
          clear hSw
          unfold opw1
          first
          | (go_simp; done)
          | (go_simp; with_reducible rfl)
        simp only [opw1, Act.put, List.setIfInBounds_toArray, List.set_cons_zero, List.set_cons_succ]
        refine wpAnyH_take (i := 2) (oi := opw2) (v := ?_) rfl (by kernel_rfl) (by kernel_rfl) (by kernel_rfl) (fun _ _ _ h => h) (Or.inl ⟨by rfl, ?_⟩) (by assumption) ?_
        rotate_left
        · intro w' hSw
          clear hSw
          unfold opw2
          first
          | (go_simp; done)
          | (go_simp; with_reducible rfl)
        simp only [opw2, Act.put, List.setIfInBounds_toArray, List.set_cons_zero, List.set_cons_succ]
        refine wpAnyH_take (i := 3) (oi := opw3) (v := ?_) rfl (by kernel_rfl) (by kernel_rfl) (by kernel_rfl) (fun _ _ _ h => h) (Or.inl ⟨by rfl, ?_⟩) (by assumption) ?_
        rotate_left
        · intro w' hSw
          clear hSw
          unfold opw3
          first
          | (go_simp; done)
          | (go_simp; with_reducible rfl)
        simp only [opw3, Act.put, List.setIfInBounds_toArray, List.set_cons_zero, List.set_cons_succ]
        refine wpAnyH_take (i := 5) (oi := opw5) (v := ?_) rfl (by kernel_rfl) (by kernel_rfl) (by kernel_rfl) (fun _ _ _ h => h) (Or.inl ⟨by rfl, ?_⟩) (by assumption) ?_
        rotate_left
        · intro w' hSw
          clear hSw
          unfold opw5
          first
          | (go_simp; done)
          | (go_simp; with_reducible rfl)
        simp only [opw5, Act.put, List.setIfInBounds_toArray, List.set_cons_zero, List.set_cons_succ]
        refine wpAnyH_take (i := 6) (oi := opw6) (v := ?_) rfl (by kernel_rfl) (by kernel_rfl) (by kernel_rfl) (fun _ _ _ h => h) (Or.inl ⟨by rfl, ?_⟩) (by assumption) ?_
        rotate_left
        · intro w' hSw
          clear hSw
          unfold opw6
          first
          | (go_simp; done)
          | (go_simp; with_reducible rfl)
        simp only [opw6, Act.put, List.setIfInBounds_toArray, List.set_cons_zero, List.set_cons_succ]
        refine wpAnyH_take (i := 7) (oi := opw7) (v := ?_) rfl (by kernel_rfl) (by kernel_rfl) (by kernel_rfl) (fun _ _ _ h => h) (Or.inl ⟨by rfl, ?_⟩) (by assumption) ?_
        rotate_left
        · intro w' hSw
          clear hSw
          unfold opw7
          first
          | (go_simp; done)
          | (go_simp; with_reducible rfl)
        simp only [opw7, Act.put, List.setIfInBounds_toArray, List.set_cons_zero, List.set_cons_succ]
        refine wpAnyH_take (i := 8) (oi := opw8) (v := ?_) rfl (by kernel_rfl) (by kernel_rfl) (by kernel_rfl) (fun _ _ _ h => h) (Or.inl ⟨by rfl, ?_⟩) (by assumption) ?_
        rotate_left
        · intro w' hSw
          clear hSw
          unfold opw8
          first
          | (go_simp; done)
          | (go_simp; with_reducible rfl)
        simp only [opw8, Act.put, List.setIfInBounds_toArray, List.set_cons_zero, List.set_cons_succ]
        refine wpAnyH_take (i := 10) (oi := opw10) (v := ?_) rfl (by kernel_rfl) (by kernel_rfl) (by kernel_rfl) (fun _ _ _ h => h) (Or.inl ⟨by rfl, ?_⟩) (by assumption) ?_
        rotate_left
        · intro w' hSw
          clear hSw
          unfold opw10
          first
          | (go_simp; done)
          | (go_simp; with_reducible rfl)
        simp only [opw10, Act.put, List.setIfInBounds_toArray, List.set_cons_zero, List.set_cons_succ]
        refine wpAnyH_ready (rs := [4, 9]) (by kernel_rfl) (by simp) ?_
        refine AllReadyH.cons (o := opw4) rfl (fun KK hKK => ?_) (AllReadyH.cons (o := opw9) rfl (fun KK hKK => ?_) AllReadyH.nil)
        · have lc := C4.out
          unfold opw4
          go_simp
          refine hKK.out _ _ trivial (fun hHeld4 => ?_)
          clear hKK KK lc
          refine wpAnyH_ready (rs := [9]) (by kernel_rfl) (by simp) ?_
          refine AllReadyH.cons (o := opw9) rfl (fun KK hKK => ?_) AllReadyH.nil
          have lc := C3.out
          unfold opw9
          go_simp
          refine hKK.out _ _ trivial (fun hHeld9 => ?_)
          clear hKK KK lc
          refine wpAnyH_take (i := 11) (oi := opw11) (v := ?_) rfl (by kernel_rfl) (by kernel_rfl) (by kernel_rfl) (fun _ _ _ h => h) (Or.inl ⟨by rfl, ?_⟩) (by assumption) ?_
          rotate_left
          · intro w' hSw
            clear hSw
            unfold opw11
            first
            | (go_simp; done)
            | (go_simp; with_reducible rfl)
          simp only [opw11, Act.put, List.setIfInBounds_toArray, List.set_cons_zero, List.set_cons_succ]
          refine wpAnyH_ready (rs := [12]) (by kernel_rfl) (by simp) ?_
          refine AllReadyH.cons (o := opw12) rfl (fun KK hKK => ?_) AllReadyH.nil
          rw [if_pos (by kernel_rfl)]
          refine wp_load_run _ _ rfl _ rfl _ (LD.out _ C5.out) ?_
          refine hKK.out _ _ trivial (fun hHeld12 => ?_)
          clear hKK KK
          simp only [opw12, Act.put, List.setIfInBounds_toArray, List.set_cons_zero, List.set_cons_succ]
          refine wpAnyH_take (i := 13) (oi := opw13) (v := (.agg (wc ⟨m, bs⟩).toArray)) rfl (by kernel_rfl) (by kernel_rfl) (by kernel_rfl) (fun _ _ _ h => h) (yields_build (by rfl) _ _ rfl #[(0, .int .i64 (m : Int)), (1, .agg (bc bs).toArray)] (by simp only [List.map_toArray, List.map_cons, List.map_nil]; rfl) _ BD.out) (by assumption) ?_
          simp only [opw13, Act.put, List.setIfInBounds_toArray, List.set_cons_zero, List.set_cons_succ]
          refine wpAnyH_ready (rs := [14]) (by kernel_rfl) (by simp) ?_
          refine AllReadyH.cons (o := opw14) rfl (fun KK hKK => ?_) AllReadyH.nil
          rw [if_pos (by kernel_rfl)]
          refine wp_buildSlice_run _ _ _ rfl #[(0, .agg (wc ⟨m, bs⟩).toArray)] (by simp only [List.map_toArray, List.map_cons, List.map_nil]; rfl) _ _ (BS.out Z) ?_
          refine hKK.out _ _ trivial (fun hHeld14 => ?_)
          clear hKK KK
          simp only [opw14, Act.put, List.setIfInBounds_toArray, List.set_cons_zero, List.set_cons_succ]
          refine wpAnyH_ready (rs := [15]) (by kernel_rfl) (by simp) ?_
          refine AllReadyH.cons (o := opw15) rfl (fun KK hKK => ?_) AllReadyH.nil
          have hr := HR.out
          rw [if_pos (by kernel_rfl)]
          refine Go.Lib.wp_append_run _ _ _ _ _ rfl _ _ rfl rfl _ _ hr ?_
          refine hKK.out _ _ trivial (fun hHeldA => ?_)
          clear hKK KK hr
          simp only [opw15, Act.put, List.setIfInBounds_toArray, List.set_cons_zero, List.set_cons_succ]
          refine wpAnyH_take (i := 16) (oi := opw16) (v := ?_) rfl (by kernel_rfl) (by kernel_rfl) (by kernel_rfl) (fun _ _ _ h => h) (Or.inl ⟨by rfl, ?_⟩) (by assumption) ?_
          rotate_left
          · intro w' hSw
            clear hSw
            unfold opw16
            first
            | (go_simp; done)
            | (go_simp; with_reducible rfl)
          simp only [opw16, Act.put, List.setIfInBounds_toArray, List.set_cons_zero, List.set_cons_succ]
          refine wpAnyH_take (i := 17) (oi := opw17) (v := ?_) rfl (by kernel_rfl) (by kernel_rfl) (by kernel_rfl) (fun _ _ _ h => h) (Or.inl ⟨by rfl, ?_⟩) (by assumption) ?_
          rotate_left
          · intro w' hSw
            clear hSw
            unfold opw17
            first
            | (go_simp; done)
            | (go_simp; with_reducible rfl)
          simp only [opw17, Act.put, List.setIfInBounds_toArray, List.set_cons_zero, List.set_cons_succ]
          refine wpAnyH_ready (rs := [18]) (by kernel_rfl) (by simp) ?_
          refine AllReadyH.cons (o := opw18) rfl (fun KK hKK => ?_) AllReadyH.nil
          have sc := SC.out.1
          have sf := SC.out.2
          unfold opw18
          go_simp
          refine hKK.out _ _ trivial (fun hHeldS => ?_)
          clear hKK KK sc sf
          refine wpAnyH_done (by kernel_rfl) ?_ _
          refine NoPanic.normal ?_
          go_wp2
          go_ret
          exact ⟨rfl, FF.out⟩
        · have lc := C3.out
          unfold opw9
          go_simp
          refine hKK.out _ _ trivial (fun hHeld9 => ?_)
          clear hKK KK lc
          refine wpAnyH_take (i := 11) (oi := opw11) (v := ?_) rfl (by kernel_rfl) (by kernel_rfl) (by kernel_rfl) (fun _ _ _ h => h) (Or.inl ⟨by rfl, ?_⟩) (by assumption) ?_
          rotate_left
          · intro w' hSw
            clear hSw
            unfold opw11
            first
            | (go_simp; done)
            | (go_simp; with_reducible rfl)
          simp only [opw11, Act.put, List.setIfInBounds_toArray, List.set_cons_zero, List.set_cons_succ]
          refine wpAnyH_ready (rs := [4, 12]) (by kernel_rfl) (by simp) ?_
          refine AllReadyH.cons (o := opw4) rfl (fun KK hKK => ?_) (AllReadyH.cons (o := opw12) rfl (fun KK hKK => ?_) AllReadyH.nil)
          · have lc := C4.out
            unfold opw4
            go_simp
            refine hKK.out _ _ trivial (fun hHeld4 => ?_)
            clear hKK KK lc
            refine wpAnyH_ready (rs := [12]) (by kernel_rfl) (by simp) ?_
            refine AllReadyH.cons (o := opw12) rfl (fun KK hKK => ?_) AllReadyH.nil
            rw [if_pos (by kernel_rfl)]
            refine wp_load_run _ _ rfl _ rfl _ (LD.out _ C5.out) ?_
            refine hKK.out _ _ trivial (fun hHeld12 => ?_)
            clear hKK KK
            simp only [opw12, Act.put, List.setIfInBounds_toArray, List.set_cons_zero, List.set_cons_succ]
            refine wpAnyH_take (i := 13) (oi := opw13) (v := (.agg (wc ⟨m, bs⟩).toArray)) rfl (by kernel_rfl) (by kernel_rfl) (by kernel_rfl) (fun _ _ _ h => h) (yields_build (by rfl) _ _ rfl #[(0, .int .i64 (m : Int)), (1, .agg (bc bs).toArray)] (by simp only [List.map_toArray, List.map_cons, List.map_nil]; rfl) _ BD.out) (by assumption) ?_
            simp only [opw13, Act.put, List.setIfInBounds_toArray, List.set_cons_zero, List.set_cons_succ]
            refine wpAnyH_ready (rs := [14]) (by kernel_rfl) (by simp) ?_
            refine AllReadyH.cons (o := opw14) rfl (fun KK hKK => ?_) AllReadyH.nil
            rw [if_pos (by kernel_rfl)]
            refine wp_buildSlice_run _ _ _ rfl #[(0, .agg (wc ⟨m, bs⟩).toArray)] (by simp only [List.map_toArray, List.map_cons, List.map_nil]; rfl) _ _ (BS.out Z) ?_
            refine hKK.out _ _ trivial (fun hHeld14 => ?_)
            clear hKK KK
            simp only [opw14, Act.put, List.setIfInBounds_toArray, List.set_cons_zero, List.set_cons_succ]
            refine wpAnyH_ready (rs := [15]) (by kernel_rfl) (by simp) ?_
            refine AllReadyH.cons (o := opw15) rfl (fun KK hKK => ?_) AllReadyH.nil
            have hr := HR.out
            rw [if_pos (by kernel_rfl)]
            refine Go.Lib.wp_append_run _ _ _ _ _ rfl _ _ rfl rfl _ _ hr ?_
            refine hKK.out _ _ trivial (fun hHeldA => ?_)
            clear hKK KK hr
            simp only [opw15, Act.put, List.setIfInBounds_toArray, List.set_cons_zero, List.set_cons_succ]
            refine wpAnyH_take (i := 16) (oi := opw16) (v := ?_) rfl (by kernel_rfl) (by kernel_rfl) (by kernel_rfl) (fun _ _ _ h => h) (Or.inl ⟨by rfl, ?_⟩) (by assumption) ?_
            rotate_left
            · intro w' hSw
              clear hSw
              unfold opw16
              first
              | (go_simp; done)
              | (go_simp; with_reducible rfl)
            simp only [opw16, Act.put, List.setIfInBounds_toArray, List.set_cons_zero, List.set_cons_succ]
            refine wpAnyH_take (i := 17) (oi := opw17) (v := ?_) rfl (by kernel_rfl) (by kernel_rfl) (by kernel_rfl) (fun _ _ _ h => h) (Or.inl ⟨by rfl, ?_⟩) (by assumption) ?_
            rotate_left
            · intro w' hSw
              clear hSw
              unfold opw17
              first
              | (go_simp; done)
              | (go_simp; with_reducible rfl)
            simp only [opw17, Act.put, List.setIfInBounds_toArray, List.set_cons_zero, List.set_cons_succ]
            refine wpAnyH_ready (rs := [18]) (by kernel_rfl) (by simp) ?_
            refine AllReadyH.cons (o := opw18) rfl (fun KK hKK => ?_) AllReadyH.nil
            have sc := SC.out.1
            have sf := SC.out.2
            unfold opw18
            go_simp
            refine hKK.out _ _ trivial (fun hHeldS => ?_)
            clear hKK KK sc sf
            refine wpAnyH_done (by kernel_rfl) ?_ _
            refine NoPanic.normal ?_
            go_wp2
            go_ret
            exact ⟨rfl, FF.out⟩
          · rw [if_pos (by kernel_rfl)]
            refine wp_load_run _ _ rfl _ rfl _ (LD.out _ C5.out) ?_
            refine hKK.out _ _ trivial (fun hHeld12 => ?_)
            clear hKK KK
            simp only [opw12, Act.put, List.setIfInBounds_toArray, List.set_cons_zero, List.set_cons_succ]
            refine wpAnyH_take (i := 13) (oi := opw13) (v := (.agg (wc ⟨m, bs⟩).toArray)) rfl (by kernel_rfl) (by kernel_rfl) (by kernel_rfl) (fun _ _ _ h => h) (yields_build (by rfl) _ _ rfl #[(0, .int .i64 (m : Int)), (1, .agg (bc bs).toArray)] (by simp only [List.map_toArray, List.map_cons, List.map_nil]; rfl) _ BD.out) (by assumption) ?_
            simp only [opw13, Act.put, List.setIfInBounds_toArray, List.set_cons_zero, List.set_cons_succ]
            refine wpAnyH_ready (rs := [4, 14]) (by kernel_rfl) (by simp) ?_
            refine AllReadyH.cons (o := opw4) rfl (fun KK hKK => ?_) (AllReadyH.cons (o := opw14) rfl (fun KK hKK => ?_) AllReadyH.nil)
            · have lc := C4.out
              unfold opw4
              go_simp
              refine hKK.out _ _ trivial (fun hHeld4 => ?_)
              clear hKK KK lc
              refine wpAnyH_ready (rs := [14]) (by kernel_rfl) (by simp) ?_
              refine AllReadyH.cons (o := opw14) rfl (fun KK hKK => ?_) AllReadyH.nil
              rw [if_pos (by kernel_rfl)]
              refine wp_buildSlice_run _ _ _ rfl #[(0, .agg (wc ⟨m, bs⟩).toArray)] (by simp only [List.map_toArray, List.map_cons, List.map_nil]; rfl) _ _ (BS.out Z) ?_
              refine hKK.out _ _ trivial (fun hHeld14 => ?_)
              clear hKK KK
              simp only [opw14, Act.put, List.setIfInBounds_toArray, List.set_cons_zero, List.set_cons_succ]
              refine wpAnyH_ready (rs := [15]) (by kernel_rfl) (by simp) ?_
              refine AllReadyH.cons (o := opw15) rfl (fun KK hKK => ?_) AllReadyH.nil
              have hr := HR.out
              rw [if_pos (by kernel_rfl)]
              refine Go.Lib.wp_append_run _ _ _ _ _ rfl _ _ rfl rfl _ _ hr ?_
              refine hKK.out _ _ trivial (fun hHeldA => ?_)
              clear hKK KK hr
              simp only [opw15, Act.put, List.setIfInBounds_toArray, List.set_cons_zero, List.set_cons_succ]
              refine wpAnyH_take (i := 16) (oi := opw16) (v := ?_) rfl (by kernel_rfl) (by kernel_rfl) (by kernel_rfl) (fun _ _ _ h => h) (Or.inl ⟨by rfl, ?_⟩) (by assumption) ?_
              rotate_left
              · intro w' hSw
                clear hSw
                unfold opw16
                first
                | (go_simp; done)
                | (go_simp; with_reducible rfl)
              simp only [opw16, Act.put, List.setIfInBounds_toArray, List.set_cons_zero, List.set_cons_succ]
              refine wpAnyH_take (i := 17) (oi := opw17) (v := ?_) rfl (by kernel_rfl) (by kernel_rfl) (by kernel_rfl) (fun _ _ _ h => h) (Or.inl ⟨by rfl, ?_⟩) (by assumption) ?_
              rotate_left
              · intro w' hSw
                clear hSw
                unfold opw17
                first
                | (go_simp; done)
                | (go_simp; with_reducible rfl)
              simp only [opw17, Act.put, List.setIfInBounds_toArray, List.set_cons_zero, List.set_cons_succ]
              refine wpAnyH_ready (rs := [18]) (by kernel_rfl) (by simp) ?_
              refine AllReadyH.cons (o := opw18) rfl (fun KK hKK => ?_) AllReadyH.nil
              have sc := SC.out.1
              have sf := SC.out.2
              unfold opw18
              go_simp
              refine hKK.out _ _ trivial (fun hHeldS => ?_)
              clear hKK KK sc sf
              refine wpAnyH_done (by kernel_rfl) ?_ _
              refine NoPanic.normal ?_
              go_wp2
              go_ret
              exact ⟨rfl, FF.out⟩
            · rw [if_pos (by kernel_rfl)]
              refine wp_buildSlice_run _ _ _ rfl #[(0, .agg (wc ⟨m, bs⟩).toArray)] (by simp only [List.map_toArray, List.map_cons, List.map_nil]; rfl) _ _ (BS.out Z) ?_
              refine hKK.out _ _ trivial (fun hHeld14 => ?_)
              clear hKK KK
              simp only [opw14, Act.put, List.setIfInBounds_toArray, List.set_cons_zero, List.set_cons_succ]
              refine wpAnyH_ready (rs := [4]) (by kernel_rfl) (by simp) ?_
              refine AllReadyH.cons (o := opw4) rfl (fun KK hKK => ?_) AllReadyH.nil
              have lc := (cell_alloc (o := (.cells (wc ⟨m, bs⟩).toArray 149)) C4.out)
              unfold opw4
              go_simp
              refine hKK.out _ _ trivial (fun hHeld4 => ?_)
              clear hKK KK lc
              refine wpAnyH_ready (rs := [15]) (by kernel_rfl) (by simp) ?_
              refine AllReadyH.cons (o := opw15) rfl (fun KK hKK => ?_) AllReadyH.nil
              have hr := HR.out
              rw [if_pos (by kernel_rfl)]
              refine Go.Lib.wp_append_run _ _ _ _ _ rfl _ _ rfl rfl _ _ hr ?_
              refine hKK.out _ _ trivial (fun hHeldA => ?_)
              clear hKK KK hr
              simp only [opw15, Act.put, List.setIfInBounds_toArray, List.set_cons_zero, List.set_cons_succ]
              refine wpAnyH_take (i := 16) (oi := opw16) (v := ?_) rfl (by kernel_rfl) (by kernel_rfl) (by kernel_rfl) (fun _ _ _ h => h) (Or.inl ⟨by rfl, ?_⟩) (by assumption) ?_
              rotate_left
              · intro w' hSw
                clear hSw
                unfold opw16
                first
                | (go_simp; done)
                | (go_simp; with_reducible rfl)
              simp only [opw16, Act.put, List.setIfInBounds_toArray, List.set_cons_zero, List.set_cons_succ]
              refine wpAnyH_take (i := 17) (oi := opw17) (v := ?_) rfl (by kernel_rfl) (by kernel_rfl) (by kernel_rfl) (fun _ _ _ h => h) (Or.inl ⟨by rfl, ?_⟩) (by assumption) ?_
              rotate_left
              · intro w' hSw
                clear hSw
                unfold opw17
                first
                | (go_simp; done)
                | (go_simp; with_reducible rfl)
              simp only [opw17, Act.put, List.setIfInBounds_toArray, List.set_cons_zero, List.set_cons_succ]
              refine wpAnyH_ready (rs := [18]) (by kernel_rfl) (by simp) ?_
              refine AllReadyH.cons (o := opw18) rfl (fun KK hKK => ?_) AllReadyH.nil
              have sc := SC.out.1
              have sf := SC.out.2
              unfold opw18
              go_simp
              refine hKK.out _ _ trivial (fun hHeldS => ?_)
              clear hKK KK sc sf
              refine wpAnyH_done (by kernel_rfl) ?_ _
              refine NoPanic.normal ?_
              go_wp2
              go_ret
              exact ⟨rfl, FF.out⟩
    · rw [(wrE_form h0 h64).1, (wrE_form h0 h64).2]
      have FF : Hid (Stp w p F s w) := h.stays (Below.refl _ _)
      rw [h0] at RC
      have hsz : ¬ (t.size : Int) = 64 := by omega
      clear h hd hk0 hk1 h64 h0 ts hl
      go_enter Tryz.func136, Tryz.ntmps136
      go_wp2_with (go_at_call 34; refine Calls.mono RC.out ?_; rintro e w1 ⟨rfl, rfl⟩)
      go_ret
      exact ⟨rfl, FF.out⟩
  · rw [(wrE_reach hne).1, (wrE_reach hne).2]
    have FF : Hid (Stp w p F s w) := h.stays (Below.refl _ _)
    obtain ⟨x, hx⟩ : ∃ x, rch s k = x := ⟨_, rfl⟩
    rw [hx] at RC hne ⊢
    clear h hx ts hl
    go_enter Tryz.func136, Tryz.ntmps136
    go_wp2_with (go_at_call 34; refine Calls.mono RC.out ?_; rintro e w1 ⟨rfl, rfl⟩)
    go_ret
    exact ⟨rfl, FF.out⟩
end Go.Proofs.YtjpaodepnacimaaGreatDoor
