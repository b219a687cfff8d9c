/- A half is cleaned behind its records. -/
import Derived.Test.YtdcimnmebgkmjaaDoorLgA
namespace Go.Proofs.YtdcimnmebgkmjaaDoor
open Go.RowKit Go.Proofs.Fd Go.Proofs.Dk Go.Proofs.Lg
set_option maxRecDepth 20000

theorem hb_cut {s : St} (h : Ok s) (k : Nat) : ∀ (H j : Nat), j < H → ((hb s k H).drop (64 * j)).take 64 = s.sh (k + j) := fun H j hj => by
  obtain ⟨d, rfl⟩ : ∃ d, H = j + (1 + d) := ⟨H - j - 1, by omega⟩
  rw [hb_app, hb_app, List.drop_left' (hb_len h k j)]
  have e : hb s (k + j) 1 = s.sh (k + j) := by simp [hb]
  rw [e, List.take_left' (h.sh64 _)]
theorem wrb_one (s : St) (k : Nat) (b : Bs) (hb : b.length = 64) : wrb s k b = (wrE s (k : Int) b, wrS s (k : Int) b) := by
  have e : chs (b.length / 64) b = [b] := by
    rw [hb]
    show [b.take 64] = [b]
    rw [List.take_of_length_le (by omega)]
  rw [wrb, e, wrs]
  by_cases h : wrE s (k : Int) b = 0
  · rw [thn_ok h, wrs, h]
  · rw [thn_no h]
theorem cls_zero {s : St} {k j m : Nat} {d : Bool} (hj : j < m) (hz : s.sh (k + j) = zr 64) : cls s (k + j) (m - j) d = cls s (k + (j + 1)) (m - (j + 1)) d := by
  obtain ⟨q, hq⟩ : ∃ q, m - j = q + 1 := ⟨m - j - 1, by omega⟩
  rw [hq, cls, if_pos hz, show m - (j + 1) = q by omega]
  rfl
theorem cls_some {s : St} {k j m : Nat} {d : Bool} (hj : j < m) (hz : s.sh (k + j) ≠ zr 64) : cls s (k + j) (m - j) d = thn (wrb s (k + j) (zr 64)) fun s' => cls s' (k + (j + 1)) (m - (j + 1)) true := by
  obtain ⟨q, hq⟩ : ∃ q, m - j = q + 1 := ⟨m - j - 1, by omega⟩
  rw [hq, cls, if_neg hz, show m - (j + 1) = q by omega, wrb_one s (k + j) (zr 64) (zr_len 64)]
  rfl
theorem wrS_sh (s : St) (k : Nat) (b : Bs) (j : Nat) (hj : j ≠ k) : (wrS s (k : Int) b).sh j = s.sh j := by
  unfold wrS
  split
  · rfl
  · split
    · rfl
    · split
      · rfl
      · show lay s.f (s.l ++ [⟨(k : Int).toNat, b⟩]) j = lay s.f s.l j
        rw [lay_app, Int.toNat_natCast, upd_other _ _ hj]
/-- What stands while a half is cleaned. -/
structure Cl (w va : World) (p : Nat) (F : Nat → Prop) (s : St) (q fr mn g : Nat) (v : Value) (ts : List Bs) (tk : Nat) (m : Bs) (more : List Value) (r : Int × St) (j : Nat) (d : Bool) (wr : World) (F' : Nat → Prop) (s' : St) : Prop where
  hd : HD w wr p F' s' q fr mn g v ts tk m more
  nx : Nx va F F'
  bf : Bf F va wr
  ln : s'.l.length ≤ s.l.length + (j - tk)
  eq : r = cls s' (fr + j) (mn - j) d
  sh : ∀ i, j ≤ i → s'.sh (fr + i) = s.sh (fr + i)
section
variable {w va : World} {p : Nat} {F : Nat → Prop} {s : St} {q fr mn g : Nat} {v : Value} {ts : List Bs} {tk : Nat} {m : Bs} {more : List Value} {r : Int × St} {j : Nat} {d : Bool} {wr : World} {F' : Nat → Prop} {s' : St}
theorem Cl.later (h : Cl w va p F s q fr mn g v ts tk m more r j d wr F' s') {w' : World} (hb : Below wr.heap.size wr w') : Cl w va p F s q fr mn g v ts tk m more r j d w' F' s' := ⟨h.hd.later hb, h.nx, h.bf.later hb, h.ln, h.eq, h.sh⟩
theorem Cl.skip (h : Cl w va p F s q fr mn g v ts tk m more r j d wr F' s') (hj : j < mn) (hz : s.sh (fr + j) = zr 64) : Cl w va p F s q fr mn g v ts tk m more r (j + 1) d wr F' s' :=
  ⟨h.hd, h.nx, h.bf, by have := h.ln; omega, h.eq.trans (cls_zero hj ((h.sh j (Nat.le_refl _)).trans hz)), fun i hi => h.sh i (by omega)⟩
theorem Cl.ds (h : Cl w va p F s q fr mn g v ts tk m more r j d wr F' s') : Ds w va p F s' wr := ⟨F', h.hd.dl, h.nx, h.bf⟩
end
theorem bytes_ne {a b : Bs} (h : a ≠ b) : ((st a).toList == (st b).toList) = false := beq_eq_false_iff_ne.2 fun e => h (by
  have := bytes_ext e
  have := congrArg (fun x : ByteArray => x.data.toList) this
  exact this)
theorem keepC {wa wb : World} {q : Nat} {x0 x1 x2 : Value} (hb : Below wa.heap.size wa wb) (h : wa.cell? ⟨q, 0, none⟩ = some x0 ∧ wa.cell? ⟨q, 1, none⟩ = some x1 ∧ wa.cell? ⟨q, 2, none⟩ = some x2) :
    wb.cell? ⟨q, 0, none⟩ = some x0 ∧ wb.cell? ⟨q, 1, none⟩ = some x1 ∧ wb.cell? ⟨q, 2, none⟩ = some x2 := ⟨cell_later hb h.1, cell_later hb h.2.1, cell_later hb h.2.2⟩
theorem keepCd {w wa wb : World} {p : Nat} {F : Nat → Prop} {s : St} {q : Nat} {x0 x1 x2 : Value} (hq : ¬ F q) (hd : Ds w wa p F s wb) (h : wa.cell? ⟨q, 0, none⟩ = some x0 ∧ wa.cell? ⟨q, 1, none⟩ = some x1 ∧ wa.cell? ⟨q, 2, none⟩ = some x2) :
    wb.cell? ⟨q, 0, none⟩ = some x0 ∧ wb.cell? ⟨q, 1, none⟩ = some x1 ∧ wb.cell? ⟨q, 2, none⟩ = some x2 := by
  obtain ⟨F', -, -, hb⟩ := hd
  exact ⟨hb.cell h.1 hq, hb.cell h.2.1 hq, hb.cell h.2.2 hq⟩
set_option maxHeartbeats 4000000 in
theorem lclean_any (w va : World) (p : Nat) (F : Nat → Prop) (s : St) (q fr mn g : Nat) (v : Value) (ts : List Bs) (tk : Nat) (m : Bs) (more : List Value) (h1 : 1 ≤ mn) (h2 : fr + mn ≤ s.n) (h3 : tk ≤ mn) (hl : s.l.length + mn + 1 ≤ 1000000) (h : Hid (HD w va p F s q fr mn g v ts tk m more)) :
    Calls Tryd.prog 32 #[.pointer (some ⟨q, 0, none⟩)] va fun e w' => e = .returned (.int .i64 (cln s (fr + tk) (mn - tk)).1) ∧ Ds w va p F (cln s (fr + tk) (mn - tk)).2 w' := by
  have OK := h.out.dl.at_.1
  have hn := OK.n2
  have RD : Hid _ := lread_any w va p F s fr mn h1 h2 h.out.dl
  have k0 := h.out.hf.bk.c 0 _ rfl
  have k1 := h.out.hf.bk.c 1 _ rfl
  have k2 := h.out.hf.bk.c 2 _ rfl
  have gm : mn ≤ 1024 := by omega
  have gf : fr ≤ 1024 := by omega
  by_cases hd : s.down = true
  · have e1 : cln s (fr + tk) (mn - tk) = (150, s) := if_pos hd
    have e2 : rdA s fr mn = .tuple #[.string ⟨#[]⟩, .int .i64 150] := if_pos hd
    rw [e1]
    rw [e2] at RD
    clear e1 e2 OK hd
    unfold plc at RD
    go_enter Tryd.func32, Tryd.ntmps32
    go_wp2_with fail
    refine Calls.mono RD.out ?_
    rintro e w1 ⟨rfl, hb⟩
    have FF : Hid (Ds w va p F s w1) := ⟨F, h.out.dl.later hb, Nx.refl _ _, Bf.of hb⟩
    clear hb h k0 k1 k2 RD
    go_wp2
    go_ret
    exact ⟨rfl, FF.out⟩
  · obtain ⟨r, hr⟩ : ∃ r, cln s (fr + tk) (mn - tk) = r := ⟨_, rfl⟩
    have e1 : r = cls s (fr + tk) (mn - tk) false := by rw [← hr]; exact if_neg hd
    have e2 : rdA s fr mn = .tuple #[.string (st (hb s fr mn)), .int .i64 0] := if_neg hd
    rw [hr]
    rw [e2] at RD
    have CUT : Hid (∀ j, j < mn → (st (hb s fr mn)).extract (64 * j) (64 * j + 64) = st (s.sh (fr + j))) := fun j hj => by
      rw [st_cut, List.drop_take, show 64 * j + 64 - 64 * j = 64 by omega, hb_cut OK fr mn j hj]
    have HS : Hid ((st (hb s fr mn)).size = 64 * mn) := by
      show _ = _
      rw [st_size, hb_len OK]
    have I0 : Hid (∀ W, Below va.heap.size va W → Cl w va p F s q fr mn g v ts tk m more r tk false W F s) := fun W hb => ⟨h.out.later hb, Nx.refl _ _, Bf.of hb, Nat.le_add_right _ _, e1, fun _ _ => rfl⟩
    have HL : Hid (s.l.length + mn + 1 ≤ 1000000) := hl
    have ZR : Hid (∀ W, Calls Tryd.prog 51 #[.int .i64 64] W fun e w' => e = .returned (.string (st (zr 64))) ∧ Below W.heap.size W w') := lzeros_any 64 (by decide)
    obtain ⟨X, hX⟩ : ∃ X, st (hb s fr mn) = X := ⟨_, rfl⟩
    obtain ⟨Z, hZ⟩ : ∃ Z, st (zr 64) = Z := ⟨_, rfl⟩
    rw [hX] at RD CUT HS
    rw [hZ] at ZR
    have HZ : Hid (st (zr 64) = Z) := hZ
    clear e1 e2 hr hX hZ hd OK hl
    unfold plc at RD
    go_enter Tryd.func32, Tryd.ntmps32
    go_wp2_with fail
    refine Calls.mono RD.out ?_
    rintro e w1 ⟨rfl, hb⟩
    have I1 : Hid _ := I0.out w1 hb
    clear hb h k0 k1 k2 RD I0
    have k5 := I1.out.hd.hf.bk.c 5 _ rfl
    go_wp2
    clear k5
    go_loopw [5, 6] (fun d i wr => ∃ (j : Nat) (F' : Nat → Prop) (s' : St) (b : Bool), tk ≤ j ∧ j ≤ mn ∧ d = .bool b ∧ i = .int .i64 (j : Int) ∧ Hid (Cl w va p F s q fr mn g v ts tk m more r j b wr F' s')) (fun _ i _ => mn - (intOf i).toNat)
    case atStart => exact ⟨tk, F, s, false, Nat.le_refl _, h3, rfl, rfl, I1.out⟩
    case round =>
      obtain ⟨j, F', s', b, hj0, hj, rfl, rfl, I⟩ := hrel
      clear I1
      have k2 := I.out.hd.hf.bk.c 2 _ rfl
      by_cases hlt : j < mn
      · have g1 : (j : Int) < (mn : Int) := by omega
        have y1 : IntKind.i64.wrap ((j : Int) * 64) = (j : Int) * 64 := by rw [IntKind.wrap_i64]; omega
        have y2 : IntKind.i64.wrap ((j : Int) + 1) = (j : Int) + 1 := by rw [IntKind.wrap_i64]; omega
        have y3 : IntKind.i64.wrap (((j : Int) + 1) * 64) = ((j : Int) + 1) * 64 := by rw [IntKind.wrap_i64]; omega
        have CT := CUT.out j hlt
        have SLI : ∀ W, (Instr.slice 9 (.string X) (some (.int .i64 ((j : Int) * 64))) (some (.int .i64 (((j : Int) + 1) * 64))) none).run Tryd.prog W = .ok (.string (st (s.sh (fr + j)))) W := fun W => by
          rw [← CT]
          exact cut_run X (64 * j) (64 * j + 64) _ _ (by omega) (by omega) (by omega) (by rw [HS.out]; omega) W
        clear CT
        by_cases hz : s.sh (fr + j) = zr 64
        · rw [hz, HZ.out] at SLI
          have I2 : Hid _ := I.out.skip hlt hz
          clear hz
          go_wp2_with fail
          go_region_with (first | (go_at_call 51; refine Calls.mono (ZR.out _) ?_; rintro e w2 ⟨rfl, hb2⟩))
          all_goals
            have I3 : Hid _ := (I2.out.later (Below.refl _ _).drew).later hb2
            clear hb2 I2 I SLI
            go_wp2
            go_roundw
            case rel => exact ⟨j + 1, F', s', b, by omega, by omega, rfl, rfl, I3.out⟩
            case measure => simp [intOf]; omega
        · have hne := bytes_ne hz
          rw [HZ.out] at hne
          have hsh : s'.sh (fr + j) ≠ zr 64 := by rw [I.out.sh j (Nat.le_refl _)]; exact hz
          have HR : Hid (r = _) := I.out.eq.trans (cls_some hlt hsh)
          have NS : Hid (∀ i, j + 1 ≤ i → (wrb s' (fr + j) (zr 64)).2.sh (fr + i) = s.sh (fr + i)) := fun i hi => by
            rw [wrb_one _ _ _ (zr_len 64)]
            exact (wrS_sh _ _ _ _ (by omega)).trans (I.out.sh i (by omega))
          have NL : Hid ((wrb s' (fr + j) (zr 64)).2.l.length ≤ s.l.length + (j + 1 - tk)) := by
            show _ ≤ _
            rw [wrb_one _ _ _ (zr_len 64)]
            have := wrS_len s' ((fr + j : Nat) : Int) (zr 64)
            have := I.out.ln
            show (wrS s' ((fr + j : Nat) : Int) (zr 64)).l.length ≤ _
            omega
          have WR : Hid (∀ W, Dl w W p F' s' → Calls Tryd.prog 52 #[.agg #[.pointer (some ⟨p, 0, none⟩), .int .i64 (fr : Int), .int .i64 (mn : Int)], .int .i64 (j : Int), .string Z] W fun e w' => e = .returned (.int .i64 (wrb s' (fr + j) (zr 64)).1) ∧ Ds w W p F' (wrb s' (fr + j) (zr 64)).2 w') := fun W k => by
            rw [← HZ.out]
            exact lwrite_any w W p F' s' fr j mn (zr 64) 1 (zr_len 64) (by decide) (by omega) (by have := I.out.ln; have := HL.out; omega) k
          obtain ⟨S, hS⟩ : ∃ S, st (s.sh (fr + j)) = S := ⟨_, rfl⟩
          rw [hS] at SLI hne
          obtain ⟨y, hy⟩ : ∃ y, wrb s' (fr + j) (zr 64) = y := ⟨_, rfl⟩
          rw [hy] at HR NS NL WR
          obtain ⟨x, hx⟩ : ∃ x, y.1 = x := ⟨_, rfl⟩
          rw [hx] at WR
          have HX : Hid (y.1 = x) := hx
          clear hS hz hsh hy hx
          go_wp2_with fail
          go_region_with (first | (go_at_call 51; refine Calls.mono (ZR.out _) ?_; rintro e w2 ⟨rfl, hb2⟩))
          all_goals
            have I3 : Hid _ := (I.out.later (Below.refl _ _).drew).later hb2
            clear hb2 I SLI k2
            go_wp2_with fail
            have c0 := I3.out.hd.hf.bk.c 0 _ rfl
            have c1 := I3.out.hd.hf.bk.c 1 _ rfl
            have c2 := I3.out.hd.hf.bk.c 2 _ rfl
            have NQ : Hid (¬ F' q) := (I3.out.hd.ap q (.inl rfl)).1
            have D1 : Hid (∀ W, Below w2.drew.heap.size w2.drew W → Cl w va p F s q fr mn g v ts tk m more r j b W F' s') := fun W hb => (I3.out.later (Below.refl _ _).drew).later hb
            clear I3
            go_region_held3 (fun w' => w'.cell? ⟨q, 0, none⟩ = some (.pointer (some ⟨p, 0, none⟩)) ∧ w'.cell? ⟨q, 1, none⟩ = some (.int .i64 (fr : Int)) ∧ w'.cell? ⟨q, 2, none⟩ = some (.int .i64 (mn : Int))) (first | exact ⟨c0, c1, c2⟩ | assumption | exact keepC (by assumption) (by assumption) | exact keepCd NQ.out (by assumption) (by assumption)) (first | (go_at_call 51; refine Calls.mono (ZR.out _) ?_; rintro e w3 ⟨rfl, hb3⟩) | (go_at_call 52; refine Calls.mono (WR.out _ (D1.out _ (by assumption)).hd.dl) ?_; rintro e w4 ⟨rfl, hd4⟩))
            have D2 := D1.out w3 hb3
            obtain ⟨F4, d1, d2, d3⟩ := hd4
            have I4 : Hid (HD w w4 p F4 y.2 q fr mn g v ts tk m more ∧ Nx va F F4 ∧ Bf F va w4) := ⟨D2.hd.disk d1 d2 d3, D2.nx.trans d2 D2.bf.size, D2.bf.trans D2.nx d3⟩
            clear D1 D2 d1 d2 d3 hb3 WR c0 c1 c2 NQ
            by_cases h0 : x = 0
            · subst h0
              have I5 : Hid (Cl w va p F s q fr mn g v ts tk m more r (j + 1) true w4 F4 y.2) := ⟨I4.out.1, I4.out.2.1, I4.out.2.2, NL.out, HR.out.trans (thn_ok HX.out), NS.out⟩
              clear I4 HR NS NL
              go_wp2
              go_roundw
              case rel => exact ⟨j + 1, F4, y.2, true, by omega, by omega, rfl, rfl, I5.out⟩
              case measure => simp [intOf]; omega
            · have HR2 : Hid (r = y) := HR.out.trans (thn_no (by rw [HX.out]; exact h0))
              have FF : Hid (Ds w va p F y.2 w4) := ⟨F4, I4.out.1.dl, I4.out.2.1, I4.out.2.2⟩
              clear I4 HR NS NL
              go_wp2
              go_ret
              exact ⟨by rw [HR2.out, HX.out]; rfl, by rw [HR2.out]; exact FF.out⟩
      · obtain rfl : j = mn := by omega
        have HR := I.out.eq
        rw [Nat.sub_self, cls] at HR
        cases b
        · have HR2 : Hid (r = (0, s')) := HR
          have FF : Hid (Ds w va p F s' wr) := I.out.ds
          clear HR
          go_wp2
          go_ret
          exact ⟨by rw [HR2.out]; rfl, by rw [HR2.out]; exact FF.out⟩
        · have HR2 : Hid (r = (syE s', syS s')) := HR
          have SY : Hid _ := lsync_any w wr p F' s' fr j (by have := I.out.ln; have := HL.out; omega) I.out.hd.dl
          have c0 := I.out.hd.hf.bk.c 0 _ rfl
          have c1 := I.out.hd.hf.bk.c 1 _ rfl
          have JJ : Hid (Nx va F F' ∧ Bf F va wr) := ⟨I.out.nx, I.out.bf⟩
          unfold plc at SY
          clear HR I
          go_wp2_with fail
          refine Calls.mono SY.out ?_
          rintro e w5 ⟨rfl, F5, d1, d2, d3⟩
          have FF : Hid (Ds w va p F (syS s') w5) := ⟨F5, d1, JJ.out.1.trans d2 JJ.out.2.size, JJ.out.2.trans JJ.out.1 d3⟩
          clear d1 d2 d3 SY
          go_wp2
          go_ret
          exact ⟨by rw [HR2.out]; rfl, by rw [HR2.out]; exact FF.out⟩
end Go.Proofs.YtdcimnmebgkmjaaDoor
