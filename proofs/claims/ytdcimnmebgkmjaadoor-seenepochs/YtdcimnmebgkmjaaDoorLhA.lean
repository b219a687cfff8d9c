/- A log's calls: Room, Generation, Append, Sync, Records. -/
import Derived.Test.YtdcimnmebgkmjaaDoorLgZ
namespace Go.Proofs.YtdcimnmebgkmjaaDoor
open Go.RowKit Go.Proofs.Fd Go.Proofs.Dk Go.Proofs.Lg
set_option maxRecDepth 20000

theorem lroom_any (q p fr mn g : Nat) (v : Value) (ts : List Bs) (tk : Nat) (m : Bs) (more : List Value) (w : World) (h1 : tk ≤ mn) (h2 : mn ≤ 1024) (h : Hid (Hf w q p fr mn g v ts tk m more)) :
    Calls Tryd.prog 10 #[.pointer (some ⟨q, 0, none⟩)] w fun e w' => e = .returned (.int .i64 ((mn - tk : Nat) : Int)) ∧ Below w.heap.size w w' := by
  have k2 := h.out.bk.c 2 _ rfl
  have k5 := h.out.bk.c 5 _ rfl
  have y1 : IntKind.i64.wrap ((mn - tk : Nat) : Int) = ((mn - tk : Nat) : Int) := by rw [IntKind.wrap_i64]; omega
  have y2 : (mn : Int) - (tk : Int) = ((mn - tk : Nat) : Int) := by omega
  obtain ⟨d, hd⟩ : ∃ d, mn - tk = d := ⟨_, rfl⟩
  rw [hd] at y1 y2 ⊢
  clear hd h
  go_enter Tryd.func10, Tryd.ntmps10
  go_wp2_with fail
  go_region_with fail
  all_goals
    go_wp2
    go_ret
    exact ⟨rfl, (Below.refl _ _).drew⟩
theorem lgeneration_any (q p fr mn g : Nat) (v : Value) (ts : List Bs) (tk : Nat) (m : Bs) (more : List Value) (w : World) (h : Hid (Hf w q p fr mn g v ts tk m more)) :
    Calls Tryd.prog 14 #[.pointer (some ⟨q, 0, none⟩)] w fun e w' => e = .returned (.int .i64 (g : Int)) ∧ w' = w := by
  have k3 := h.out.bk.c 3 _ rfl
  clear h
  go_enter Tryd.func14, Tryd.ntmps14
  go_wp2
  go_ret
  exact ⟨rfl, rfl⟩
theorem lsyncl_any (w va : World) (p : Nat) (F : Nat → Prop) (s : St) (q fr mn g : Nat) (v : Value) (ts : List Bs) (tk : Nat) (m : Bs) (more : List Value) (hl : s.l.length ≤ 1000000) (h : Hid (HD w va p F s q fr mn g v ts tk m more)) :
    Calls Tryd.prog 27 #[.pointer (some ⟨q, 0, none⟩)] va fun e w' => e = .returned (.int .i64 (syE s)) ∧ Ds w va p F (syS s) w' := by
  have k0 := h.out.hf.bk.c 0 _ rfl
  have k1 := h.out.hf.bk.c 1 _ rfl
  have k2 := h.out.hf.bk.c 2 _ rfl
  have SY : Hid _ := lsync_any w va p F s fr mn hl h.out.dl
  unfold plc at SY
  obtain ⟨x, hx⟩ : ∃ x, syE s = x := ⟨_, rfl⟩
  obtain ⟨t, ht⟩ : ∃ t, syS s = t := ⟨_, rfl⟩
  rw [hx, ht] at SY ⊢
  clear hx ht h
  go_enter Tryd.func27, Tryd.ntmps27
  go_wp2_with fail
  refine Calls.mono SY.out ?_
  rintro e w1 ⟨rfl, hd⟩
  have FF : Hid _ := hd
  clear hd
  go_wp2
  go_ret
  exact ⟨rfl, FF.out⟩
/-- What Append does to the disk. -/
def apR (s : St) (fr mn tk : Nat) (m t : Bs) : Int × St := if may t ≠ 0 then (may t, s) else if mn < tk + sn t then (151, s) else wrb s (fr + tk) (rcd m t)
theorem may_ok {t : Bs} (h : may t = 0) : 1 ≤ t.length ∧ t.length ≤ 2000 := by
  unfold may at h
  split at h
  · simp at h
  · split at h
    · simp at h
    · omega
set_option maxHeartbeats 2000000 in
theorem lappend_any (w va : World) (p : Nat) (F : Nat → Prop) (s : St) (q fr mn g : Nat) (v : Value) (ts : List Bs) (tk : Nat) (m : Bs) (X : ByteArray) (hm : m.length = 16) (hts : ts.length ≤ 100000) (htk : tk ≤ mn) (hmn : mn ≤ 1024) (hz : fr ≤ 1024) (hl : s.l.length + 100 ≤ 1000000) (hk : Hid (Kh w)) (h : Hid (HD w va p F s q fr mn g v ts tk m [])) :
    Calls Tryd.prog 11 #[.pointer (some ⟨q, 0, none⟩), .string X] va fun e w' => e = .returned (.int .i64 (apR s fr mn tk m X.data.toList).1) ∧ AdP w va p F q fr mn g v ts tk m [] X.data.toList (apR s fr mn tk m X.data.toList) w' := by
  have CH : Hid _ := lcheck_any X va
  have STAY : ∀ x : Int, x ≠ 0 → ∀ W, Below va.heap.size va W → AdP w va p F q fr mn g v ts tk m [] X.data.toList (x, s) W := fun x hx W hb => ⟨F, v, Nx2.refl _ _ _ _, Bf.of hb, .inr ⟨hx, h.out.later hb⟩⟩
  unfold apR
  by_cases h1 : may X.data.toList ≠ 0
  · rw [if_pos h1]
    have FF : Hid _ := STAY _ h1 va (Below.refl _ _)
    obtain ⟨x, hx⟩ : ∃ x, may X.data.toList = x := ⟨_, rfl⟩
    rw [hx] at CH h1 FF ⊢
    clear hx h STAY
    go_enter Tryd.func11, Tryd.ntmps11
    go_wp2_with fail
    refine Calls.mono CH.out ?_
    rintro e w1 ⟨rfl, rfl⟩
    go_wp2
    go_ret
    exact ⟨rfl, FF.out⟩
  · rw [if_neg h1]
    have h1' : may X.data.toList = 0 := Decidable.byContradiction h1
    have hb := may_ok h1'
    rw [h1'] at CH
    have SO : Hid (Calls Tryd.prog 34 #[.string X] va fun e w' => e = .returned (.int .i64 (sn X.data.toList : Int)) ∧ w' = va) := lsectorsOf_any X.data.toList (by omega) va
    have RM : Hid _ := lroom_any q p fr mn g v ts tk m [] va htk hmn h.out.hf
    have hsn : sn X.data.toList ≤ 100 := by unfold sn; omega
    by_cases h2 : mn < tk + sn X.data.toList
    · rw [if_pos h2]
      have g1 : ((mn - tk : Nat) : Int) < (sn X.data.toList : Int) := by omega
      have FS : Hid _ := STAY 151 (by decide)
      obtain ⟨n, hn⟩ : ∃ n, sn X.data.toList = n := ⟨_, rfl⟩
      obtain ⟨d, hd⟩ : ∃ d, mn - tk = d := ⟨_, rfl⟩
      rw [hn] at SO g1
      rw [hd] at RM g1
      clear hn hd h STAY h1 h1' hb h2 hsn
      go_enter Tryd.func11, Tryd.ntmps11
      go_wp2_with fail
      refine Calls.mono CH.out ?_
      rintro e w1 ⟨rfl, rfl⟩
      go_wp2_with fail
      refine Calls.mono SO.out ?_
      rintro e w2 ⟨rfl, rfl⟩
      go_wp2_with fail
      refine Calls.mono RM.out ?_
      rintro e w3 ⟨rfl, hb3⟩
      have FF : Hid _ := FS.out w3 hb3
      clear FS hb3
      go_wp2
      go_ret
      exact ⟨rfl, FF.out⟩
    · rw [if_neg h2]
      have g1 : ¬ ((mn - tk : Nat) : Int) < (sn X.data.toList : Int) := by omega
      have AD : Hid (∀ W, Below va.heap.size va W → Calls Tryd.prog 35 #[.pointer (some ⟨q, 0, none⟩), .string X] W fun e w' => e = .returned (.int .i64 (wrb s (fr + tk) (rcd m X.data.toList)).1) ∧ AdP w va p F q fr mn g v ts tk m [] X.data.toList (wrb s (fr + tk) (rcd m X.data.toList)) w') := fun W hbw =>
        (ladd_any w W p F s q fr mn g v ts tk m [] X.data.toList hm hb.2 hts (by omega) hl hk (h.out.later hbw)).mono fun _ _ ⟨he, F', v', n1, b1, hh⟩ => ⟨he, F', v', (Nx2.refl va _ _ _).trans n1 hbw.size, (Bf.of hbw).trans (Nx.refl _ _) b1, hh⟩
      obtain ⟨y, hy⟩ : ∃ y, wrb s (fr + tk) (rcd m X.data.toList) = y := ⟨_, rfl⟩
      rw [hy] at AD ⊢
      obtain ⟨n, hn⟩ : ∃ n, sn X.data.toList = n := ⟨_, rfl⟩
      obtain ⟨d, hd⟩ : ∃ d, mn - tk = d := ⟨_, rfl⟩
      rw [hn] at SO g1
      rw [hd] at RM g1
      obtain ⟨x, hx⟩ : ∃ x, y.1 = x := ⟨_, rfl⟩
      rw [hx] at AD ⊢
      clear hn hd h STAY h1 h1' hb h2 hsn hy hx
      go_enter Tryd.func11, Tryd.ntmps11
      go_wp2_with fail
      refine Calls.mono CH.out ?_
      rintro e w1 ⟨rfl, rfl⟩
      go_wp2_with fail
      refine Calls.mono SO.out ?_
      rintro e w2 ⟨rfl, rfl⟩
      go_wp2_with fail
      refine Calls.mono RM.out ?_
      rintro e w3 ⟨rfl, hb3⟩
      have A3 : Hid _ := AD.out w3 hb3
      clear AD hb3
      go_wp2_with fail
      refine Calls.mono A3.out ?_
      rintro e w4 ⟨rfl, had⟩
      have FF : Hid _ := had
      clear had A3
      go_wp2
      go_ret
      exact ⟨rfl, FF.out⟩
end Go.Proofs.YtdcimnmebgkmjaaDoor
