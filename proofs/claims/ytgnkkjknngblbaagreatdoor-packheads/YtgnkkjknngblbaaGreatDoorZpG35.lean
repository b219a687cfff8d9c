/- Parts: PkP, PkC, PkD0. -/
import Derived.Test.YtgnkkjknngblbaaGreatDoorZpG34
import Derived.Test.YtgnkkjknngblbaaGreatDoorZpG29
import Derived.Test.YtgnkkjknngblbaaGreatDoorZpG33
namespace Go.Proofs.YtgnkkjknngblbaaGreatDoor
open Go.RowKit Go.Proofs.Fd Go.Proofs.Hs Go.Proofs.Cc Go.Proofs.Hd Go.Proofs.Rt Go.Proofs.Wd
set_option maxRecDepth 20000
set_option maxHeartbeats 1000000 in
theorem payload_any (CW : Hid WrapC) (CS : Hid ShutC) (t : ByteArray) (ht : t.size ≤ 222) (ss : List ByteArray) (L : Nat) (hL : ss.length = L + 1) (l4 : L ≤ 4) (ka : Option Addr) (kc : Nat) (_ : L + 1 ≤ kc) (w : World) (hK : Hid (Kh w)) (hk : Hid (KeysAt w (.slice ka (L + 1) kc) ss)) :
    Calls Tryz.prog 17 #[.string t, .slice ka (L + 1) kc] w fun e w' => e = .returned (.string (pbd ss t 0)) ∧ Below w.heap.size w w' := by
  have WP : Hid (∀ (g : Nat) (k0 k1 k3 k4 : ByteArray) (w : World), Six w g k0 k1 (hdk (nth ss L) lBody 32) k3 k4 ⟨#[]⟩ → Kh w → Calls Tryz.prog 32 #[.pointer (some ⟨g, 0, none⟩), .string t] w fun e w' => e = .returned (.tuple #[]) ∧ Six w' g k0 k1 (hdk (nth ss L) lBody 32) k3 k4 (pbd ss t L) ∧ Below g w w') := fun g k0 k1 k3 k4 w h hK =>
    pwrap_any g k0 k1 _ k3 k4 _ t _ w h hK (fun w hw => by
      rw [← wrV_pbd ss t L hL.symm ht]
      exact CW.out _ _ _ w (by rw [hdk_size]; show (32 : Nat) + 64 ≤ _; decide) (by show t.size ≤ _; omega) hw)
  have SP : Hid (∀ (i : Nat) (g : Nat) (k0 k1 k3 k4 : ByteArray) (w : World), i < L + 1 → Six w g k0 k1 (hdk (nth ss i) lBody 32) k3 k4 (pbd ss t (i + 1)) → Kh w → Calls Tryz.prog 33 #[.pointer (some ⟨g, 0, none⟩)] w fun e w' => e = .returned (.tuple #[]) ∧ Six w' g k0 k1 (hdk (nth ss i) lBody 32) k3 k4 (pbd ss t i) ∧ Below g w w') := fun i g k0 k1 k3 k4 w hi h hK =>
    pshut_any g k0 k1 _ k3 k4 _ _ w h hK (fun w hw => by
      rw [← shV_pbd ss t i (by omega) ht]
      exact CS.out _ _ w (by rw [hdk_size]; show (32 : Nat) + 64 ≤ _; decide) (by show (pbd ss t (i + 1)).size ≤ _; rw [pbd_size _ _ _ ht]; decide) hw)
  have KC : Hid (∀ w' i, Below w.heap.size w w' → i < L + 1 → ∃ b o, ka = some ⟨b, o, none⟩
      ∧ w'.cell? ⟨b, o + i * 5, none⟩ = some (.string (hdk (nth ss i) lFlow 32)) ∧ w'.cell? ⟨b, o + i * 5 + 1, none⟩ = some (.string (hdk (nth ss i) lMac 32)) ∧ w'.cell? ⟨b, o + i * 5 + 2, none⟩ = some (.string (hdk (nth ss i) lBody 32))
      ∧ w'.cell? ⟨b, o + i * 5 + 3, none⟩ = some (.string (bld (nth ss i))) ∧ w'.cell? ⟨b, o + i * 5 + 4, none⟩ = some (.string (hdk (nth ss i) lTag 16))) := fun w' i hb hi => by
    obtain ⟨a, c, e, -, -, kcs⟩ := hk.out
    rw [hL] at e
    cases e
    obtain ⟨b, o, e, c0, c1, c2, c3, c4⟩ := kcs i (by omega)
    exact ⟨b, o, e, cell_later hb c0, cell_later hb c1, cell_later hb c2, cell_later hb c3, cell_later hb c4⟩
  clear CW CS hk
  obtain ⟨b1, o1, hka, c0, c1, c2, c3, c4⟩ := KC.out w L (Below.refl _ _) (by omega)
  have n1 : IntKind.i64.wrap (((L + 1 : Nat) : Int) - 1) = (L : Int) := by rw [IntKind.wrap_i64]; omega
  have n2 : wrap64 (((L + 1 : Nat) : Int) - 1) = (L : Int) := by unfold wrap64; omega
  have n1' : IntKind.i64.wrap ((L : Int) + 1 - 1) = (L : Int) := by rw [IntKind.wrap_i64]; omega
  have n2' : wrap64 ((L : Int) + 1 - 1) = (L : Int) := by unfold wrap64; omega
  have n3 : (L : Int) < ((L + 1 : Nat) : Int) := by omega
  have n3' : (L : Int) < (L : Int) + 1 := by omega
  subst hka
  go_enter Tryz.func17, Tryz.ntmps17
  go_wp2_with fail
  obtain ⟨A, hA⟩ : ∃ A, w.alloc (.cells #[.string (hdk (nth ss L) lFlow 32), .string (hdk (nth ss L) lMac 32), .string (hdk (nth ss L) lBody 32), .string (bld (nth ss L)), .string (hdk (nth ss L) lTag 16), .string ⟨#[]⟩] 58) = A := ⟨_, rfl⟩
  have J : Hid (Six A w.heap.size (hdk (nth ss L) lFlow 32) (hdk (nth ss L) lMac 32) (hdk (nth ss L) lBody 32) (bld (nth ss L)) (hdk (nth ss L) lTag 16) ⟨#[]⟩ ∧ Below w.heap.size w A) := by
    rw [← hA]
    exact ⟨Six.new _ _ _ _ _ _ _ _, (Below.refl _ _).alloc (Nat.le_refl _) _⟩
  rw [hA]
  clear hA c0 c1 c2 c3 c4
  refine Calls.mono (WP.out _ _ _ _ _ _ J.out.1 (hK.out.later J.out.2)) ?_
  rintro e w1 ⟨rfl, h1, hb1⟩
  have J1 : Hid (∃ k0 k1 k2 k3 k4, Six w1 w.heap.size k0 k1 k2 k3 k4 (pbd ss t L) ∧ Below w.heap.size w w1) := ⟨_, _, _, _, _, h1, J.out.2.trans hb1⟩
  clear h1 hb1 J WP
  obtain ⟨g, hg⟩ : ∃ g, w.heap.size = g := ⟨_, rfl⟩
  have HG : Hid (w.heap.size = g) := hg
  rw [hg] at J1 ⊢
  clear hg
  go_wp2_with fail
  go_loopw [7] (fun iv wr => ∃ j : Nat, j ≤ L ∧ iv = .int .i64 ((j : Int) - 1) ∧ Hid (∃ k0 k1 k2 k3 k4, Six wr g k0 k1 k2 k3 k4 (pbd ss t j) ∧ Below g w wr)) (fun iv _ => (intOf iv + 1).toNat)
  case atStart => exact ⟨L, Nat.le_refl _, by go_num, J1.out⟩
  case round =>
    obtain ⟨j, hj, rfl, I⟩ := hrel
    clear J1
    obtain ⟨y0, y1, y2, y3, y4, hsix, hbel⟩ := I.out
    have I2 : Hid (Six wr g y0 y1 y2 y3 y4 (pbd ss t j) ∧ Below g w wr) := ⟨hsix, hbel⟩
    clear I hsix hbel
    obtain ⟨fz, d0, d1, d2, d3, d4, d5⟩ := I2.out.1
    have f0 := fz 0
    have f1 := fz 1
    have f2 := fz 2
    have f3 := fz 3
    have f4 := fz 4
    have gl := I2.out.1.lt
    clear fz
    cases j with
    | zero =>
      have q1 : ¬ (0 : Int) ≤ ((0 : Nat) : Int) - 1 := by omega
      go_wp2
      go_ret
      exact ⟨rfl, by have := I2.out.2; rw [← HG.out] at this; exact this⟩
    | succ i =>
      have q0 : ((i + 1 : Nat) : Int) - 1 = (i : Int) := by omega
      rw [q0]
      have q1 : (0 : Int) ≤ (i : Int) := by omega
      have BW : Below w.heap.size w wr := by rw [HG.out]; exact I2.out.2
      obtain ⟨b2, o2, he, c0, c1, c2, c3, c4⟩ := KC.out wr i BW (by omega)
      cases he
      have n4 : (i : Int) < ((L + 1 : Nat) : Int) := by omega
      have n4' : (i : Int) < (L : Int) + 1 := by omega
      have SX : Hid (_ ∧ _) := And.intro (I2.out.1.put5 (hdk (nth ss i) lFlow 32) (hdk (nth ss i) lMac 32) (hdk (nth ss i) lBody 32) (bld (nth ss i)) (hdk (nth ss i) lTag 16)) (below_five I2.out.2 (Nat.le_refl g) (.string (hdk (nth ss i) lFlow 32)) (.string (hdk (nth ss i) lMac 32)) (.string (hdk (nth ss i) lBody 32)) (.string (bld (nth ss i))) (.string (hdk (nth ss i) lTag 16)))
      have gne : ¬ g = b1 := by
        obtain ⟨b3, o3, he3, e0, -⟩ := KC.out w i (Below.refl _ _) (by omega)
        cases he3
        have := World.block_lt_of_cell? _ _ e0
        have := HG.out
        simp at *
        omega
      have gne2 : ¬ b1 = g := fun h => gne h.symm
      have GK : Hid (1 < g) := by rw [← HG.out]; exact hK.out.1
      go_wp2_with fail
      refine Calls.mono (SP.out i _ _ _ _ _ _ (by omega) SX.out.1 (Kh.above hK.out GK.out SX.out.2)) ?_
      rintro e w3 ⟨rfl, h3, hb3⟩
      have J3 : Hid (∃ k0 k1 k2 k3 k4, Six w3 g k0 k1 k2 k3 k4 (pbd ss t i) ∧ Below g w w3) := ⟨_, _, _, _, _, h3, SX.out.2.trans hb3⟩
      clear h3 hb3 SX I2 c0 c1 c2 c3 c4 d0 d1 d2 d3 d4 d5
      go_wp2
      exact ⟨⟨i, by omega, by go_num, J3.out⟩, by simp [intOf]⟩
end Go.Proofs.YtgnkkjknngblbaaGreatDoor
namespace Go.Proofs.YtgnkkjknngblbaaGreatDoor
open Go.RowKit Go.Proofs.Fd Go.Proofs.Hs Go.Proofs.Cc Go.Proofs.Hd Go.Proofs.Rt Go.Proofs.Wd
set_option maxRecDepth 20000
set_option maxHeartbeats 1000000 in
theorem pMake_no (seed : ByteArray) (a : Option Addr) (n cap : Nat) (t : ByteArray) (b : Option Addr) (m cap2 : Nat) (w : World) (H : ByteArray) (e : Int) (he : ¬ e = 0)
    (RM : Hid (Calls Tryz.prog 16 #[.string seed, .slice a n cap, .slice b m cap2] w fun x w' => ∃ v, x = .returned (.tuple #[.string H, v, .int .i64 e]) ∧ Below w.heap.size w w')) :
    Calls Tryz.prog 8 #[.string seed, .slice a n cap, .string t, .slice b m cap2] w fun x w' => x = .returned (.tuple #[.string ⟨#[]⟩, .int .i64 e]) ∧ Below w.heap.size w w' := by
  go_enter Tryz.func8, Tryz.ntmps8
  go_wp2_with fail
  refine Calls.mono RM.out ?_
  rintro x w1 ⟨v, rfl, hb1⟩
  have B1 : Hid (Below w.heap.size w w1) := hb1
  clear hb1 RM
  go_wp2
  go_ret2
  exact ⟨rfl, B1.out⟩
set_option maxHeartbeats 1000000 in
theorem pMake_long (seed : ByteArray) (a : Option Addr) (n cap : Nat) (t : ByteArray) (b : Option Addr) (m cap2 : Nat) (w : World) (H : ByteArray) (ht : 222 < t.size)
    (RM : Hid (Calls Tryz.prog 16 #[.string seed, .slice a n cap, .slice b m cap2] w fun x w' => ∃ v, x = .returned (.tuple #[.string H, v, .int .i64 0]) ∧ Below w.heap.size w w')) :
    Calls Tryz.prog 8 #[.string seed, .slice a n cap, .string t, .slice b m cap2] w fun x w' => x = .returned (.tuple #[.string ⟨#[]⟩, .int .i64 2]) ∧ Below w.heap.size w w' := by
  have gi : (222 : Int) < (t.size : Int) := by omega
  go_enter Tryz.func8, Tryz.ntmps8
  go_wp2_with fail
  refine Calls.mono RM.out ?_
  rintro x w1 ⟨v, rfl, hb1⟩
  have B1 : Hid (Below w.heap.size w w1) := hb1
  clear hb1 RM
  go_wp2_with fail
  refine Calls.mono (room_any _) ?_
  rintro x w2 ⟨rfl, rfl⟩
  go_wp2
  go_ret2
  exact ⟨rfl, B1.out⟩
set_option maxHeartbeats 1000000 in
theorem pMake_ok (CW : Hid WrapC) (CS : Hid ShutC) (seed : ByteArray) (a : Option Addr) (n cap : Nat) (t : ByteArray) (b : Option Addr) (m cap2 : Nat) (w : World) (hK : Hid (Kh w)) (H : ByteArray) (ss : List ByteArray) (ht : t.size ≤ 222) (zH : H.size = 248) (hl : 1 ≤ ss.length ∧ ss.length ≤ 5)
    (RM : Hid (Calls Tryz.prog 16 #[.string seed, .slice a n cap, .slice b m cap2] w fun x w' => ∃ v, x = .returned (.tuple #[.string H, v, .int .i64 0]) ∧ KeysAt w' v ss ∧ Below w.heap.size w w')) :
    Calls Tryz.prog 8 #[.string seed, .slice a n cap, .string t, .slice b m cap2] w fun x w' => x = .returned (.tuple #[.string (H ++ pbd ss t 0), .int .i64 0]) ∧ Below w.heap.size w w' := by
  have gi : ¬ (222 : Int) < (t.size : Int) := by omega
  obtain ⟨L, hL⟩ : ∃ L, ss.length = L + 1 := ⟨ss.length - 1, by omega⟩
  have AD : ∀ w, (Op.stringOp .add H (pbd ss t 0)).run Tryz.prog w = .ok (.string (H ++ pbd ss t 0)) w := fun w => run_string_add_sum _ _ _ (by rw [zH, pbd_size _ _ _ ht]; decide)
  have PL : Hid (∀ (ka : Option Addr) (kc : Nat) (w : World), L + 1 ≤ kc → Kh w → KeysAt w (.slice ka (L + 1) kc) ss → Calls Tryz.prog 17 #[.string t, .slice ka (L + 1) kc] w fun e w' => e = .returned (.string (pbd ss t 0)) ∧ Below w.heap.size w w') := fun ka kc w hc h hk =>
    payload_any CW CS t ht ss L hL (by omega) ka kc hc w h hk
  generalize H ++ pbd ss t 0 = R at *
  generalize pbd ss t 0 = B at *
  clear CW CS
  go_enter Tryz.func8, Tryz.ntmps8
  go_wp2_with fail
  refine Calls.mono RM.out ?_
  rintro x w1 ⟨v, rfl, ⟨ka, kc, rfl, kl, kx, kcs⟩, hb1⟩
  have B1 : Hid (Below w.heap.size w w1) := hb1
  have KY : Hid (KeysAt w1 (.slice ka (L + 1) kc) ss) := ⟨ka, kc, by rw [hL], kl, kx, kcs⟩
  rw [hL] at kl
  rw [hL]
  clear hb1 RM kcs
  go_wp2_with fail
  refine Calls.mono (room_any _) ?_
  rintro x w2 ⟨rfl, rfl⟩
  go_wp2_with fail
  refine Calls.mono (PL.out ka kc _ kl (hK.out.later B1.out) KY.out) ?_
  rintro x w3 ⟨rfl, hb3⟩
  have B3 : Hid (Below w.heap.size w w3) := chain B1.out hb3
  clear hb3 PL KY B1
  go_wp2
  go_ret2
  exact ⟨rfl, B3.out⟩
theorem pmake_of (CM : Hid MakeC) (CW : Hid WrapC) (CS : Hid ShutC) : PMakeC := fun seed a pts n cap t b hs m cap2 w hl hb zs zp hid zt hK hc hp => by
  have M := CM.out seed a pts n cap b hs m cap2 w hl hb zs zp hid hK hc hp
  by_cases h0 : mkE seed pts hs = 0
  · rw [h0] at M
    rcases Nat.lt_or_ge 222 t.size with ht | ht
    · obtain ⟨e1, e2⟩ := pm_long seed pts t hs h0 ht
      rw [e1, e2]
      exact pMake_long seed a n cap t b m cap2 w _ ht (M.mono fun x w' ⟨v, q1, _, q3⟩ => ⟨v, q1, q3⟩)
    · obtain ⟨e1, e2⟩ := pm_parts seed pts t hs h0 ht
      rw [e1, e2]
      obtain ⟨z1, z2, z3⟩ := mk_ok seed pts hs h0
      exact pMake_ok CW CS seed a n cap t b m cap2 w hK _ _ ht z1 ⟨z2, z3⟩ M
  · obtain ⟨e1, e2⟩ := pm_no seed pts t hs h0
    rw [e1, e2]
    exact pMake_no seed a n cap t b m cap2 w _ _ h0 (M.mono fun x w' ⟨v, q1, _, q3⟩ => ⟨v, q1, q3⟩)
end Go.Proofs.YtgnkkjknngblbaaGreatDoor
namespace Go.Proofs.YtgnkkjknngblbaaGreatDoor
open Go.RowKit Go.Proofs.Fd Go.Proofs.Hs Go.Proofs.Cc Go.Proofs.Hd Go.Proofs.Rt Go.Proofs.Wd
set_option maxRecDepth 20000
theorem hpl_no_ne {p h : ByteArray} {e : Int} (q : hpl p h = .error e) : ¬ e = 0 := by
  unfold hpl at q
  split at q
  · split at q
    · cases q; decide
    · split at q
      · split at q
        · cases q; decide
        · cases q
      · cases q; decide
  · cases q; decide
theorem hpl_on_size {p h : ByteArray} {x : Hp} {n s : ByteArray} (q : hpl p h = .ok (x, n, s)) : n.size ≤ 248 := by
  unfold hpl at q
  split at q
  · rename_i hz
    split at q
    · cases q
    · split at q
      · split at q
        · cases q
        · cases q
          split
          · rw [ba_sz, List.length_append, list_sz, Crv.ek_size, List.length_drop]
            unfold hplain
            rw [xorl_len _ _ (by rw [List.length_append, List.length_replicate, List.length_drop, list_sz, hflow_len, hz.2]; decide), List.length_append, List.length_replicate, List.length_drop, list_sz, hz.2]
            decide
          · decide
      · cases q
  · cases q
theorem res_pd (tmps : Array Value) (w : World) (b : Nat) (x : Hp) (n t s : ByteArray) (e : Int) (h4 : tmps.getD 4 undef = .pointer (some ⟨b, 0, none⟩)) (h5 : tmps.getD 5 undef = .int .i64 e) (l : PdAt w b x n t s) :
    (results Tryz.f12 tmps).run Tryz.prog w = .ok (.tuple #[pdv x n t s, .int .i64 e]) w := by
  have l1 := run_loadVar_mid (P := Tryz.prog) w b 0 36 [.int .i64 x.k, .int .i64 x.n, .int .i64 x.u, .int .i64 x.d, .string x.id, .string n, .string t, .string s] _ l.range Tryz.underlying36 rfl (by kernel_rfl)
  unfold results
  rw [Tryz.results12]
  have h4' : tmps[4]?.getD undef = .pointer (some ⟨b, 0, none⟩) := by simpa using h4
  have h5' : tmps[5]?.getD undef = .int .i64 e := by simpa using h5
  unfold pdv
  simp [h4', h5', l1, asAddr]
theorem PdAt.zero (w : World) : PdAt (w.alloc (.cells #[.int .i64 0, .int .i64 0, .int .i64 0, .int .i64 0, .string ⟨#[]⟩, .string ⟨#[]⟩, .string ⟨#[]⟩, .string ⟨#[]⟩] 36)) w.heap.size zh ⟨#[]⟩ ⟨#[]⟩ ⟨#[]⟩ := PdAt.new w 36 0 0 0 0 ⟨#[]⟩ ⟨#[]⟩ ⟨#[]⟩ ⟨#[]⟩
set_option maxHeartbeats 400000 in
theorem pPeel_form (p b : ByteArray) (hb : b.size ≠ 504) (w : World) :
    Calls Tryz.prog 12 #[.string p, .string b] w fun e w' => e = .returned (.tuple #[pdz, .int .i64 3]) ∧ Below w.heap.size w w' := by
  have g1 : ((b.size : Int) != 504) = true := by simp; omega
  obtain ⟨A, hA⟩ : ∃ A, w.alloc (.cells #[.int .i64 0, .int .i64 0, .int .i64 0, .int .i64 0, .string ⟨#[]⟩, .string ⟨#[]⟩, .string ⟨#[]⟩, .string ⟨#[]⟩] 36) = A := ⟨_, rfl⟩
  have J : Hid (PdAt A w.heap.size zh ⟨#[]⟩ ⟨#[]⟩ ⟨#[]⟩ ∧ Below w.heap.size w A) := by
    rw [← hA]
    exact ⟨PdAt.new _ _ 0 0 0 0 _ _ _ _, (Below.refl _ _).alloc (Nat.le_refl _) _⟩
  have F : Hid (PdAt (putP A w.heap.size zh ⟨#[]⟩ ⟨#[]⟩ ⟨#[]⟩) w.heap.size zh ⟨#[]⟩ ⟨#[]⟩ ⟨#[]⟩ ∧ Below w.heap.size w (putP A w.heap.size zh ⟨#[]⟩ ⟨#[]⟩ ⟨#[]⟩)) := ⟨J.out.1.put _ _ _ _, below_putP J.out.2 (Nat.le_refl _) _ _ _ _⟩
  unfold putP zh at F
  obtain ⟨⟨h0, h1, h2, h3, h4, h5, h6, h7⟩, z0, z1, z2, z3, z4, z5, z6, z7⟩ := PdAt.cells (k := 0) (n := 0) (u := 0) (d := 0) (id := ⟨#[]⟩) J.out.1
  go_enter Tryz.func12, Tryz.ntmps12
  go_wp2
  refine bodyPost_ret (v := .tuple #[pdz, .int .i64 3]) ?_ rfl ⟨rfl, F.out.2⟩
  exact res_pd _ _ w.heap.size zh _ _ _ 3 (by kernel_rfl) (by kernel_rfl) F.out.1
theorem PdAt.above {g : Nat} {w w' : World} {b : Nat} {x : Hp} {n t s : ByteArray} (h : PdAt w b x n t s) (hb : Below g w w') (hlt : b < g) : PdAt w' b x n t s := by
  obtain ⟨f, h0, h1, h2, h3, h4, h5, h6, h7⟩ := h
  have e : ∀ j, w'.cell? ⟨b, j, none⟩ = w.cell? ⟨b, j, none⟩ := fun j => hb.cell hlt
  have e2 : ∀ j, w'.frozen? ⟨b, j, none⟩ = w.frozen? ⟨b, j, none⟩ := fun j => hb.frozen hlt
  exact ⟨fun j => by rw [e2, f], by rw [e, h0], by rw [e, h1], by rw [e, h2], by rw [e, h3], by rw [e, h4], by rw [e, h5], by rw [e, h6], by rw [e, h7]⟩
theorem HopAt.above {g : Nat} {w w' : World} {b : Nat} {x : Hp} (h : HopAt w b x) (hb : Below g w w') (hlt : b < g) : HopAt w' b x := by
  obtain ⟨f, h0, h1, h2, h3, h4⟩ := h
  have e : ∀ j, w'.cell? ⟨b, j, none⟩ = w.cell? ⟨b, j, none⟩ := fun j => hb.cell hlt
  have e2 : ∀ j, w'.frozen? ⟨b, j, none⟩ = w.frozen? ⟨b, j, none⟩ := fun j => hb.frozen hlt
  exact ⟨fun j => by rw [e2, f], by rw [e, h0], by rw [e, h1], by rw [e, h2], by rw [e, h3], by rw [e, h4]⟩
end Go.Proofs.YtgnkkjknngblbaaGreatDoor
