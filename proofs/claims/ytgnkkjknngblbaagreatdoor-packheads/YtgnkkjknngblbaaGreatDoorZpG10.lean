/- Parts: C11, EdCh. -/
import Derived.Test.YtgnkkjknngblbaaGreatDoorZpG09
import Derived.Test.YtgnkkjknngblbaaGreatDoorZpG06
namespace Go.Proofs.YtgnkkjknngblbaaGreatDoor.Crv
open Go.RowKit Go.Proofs.Fd Go.Proofs.Ed
set_option maxRecDepth 20000
def chn : List ByteArray → ByteArray → Option ByteArray
  | [], u => some u
  | k :: r, u => if tm k u = 0 then none else chn r (ek (tm k u))
def och : Option ByteArray → Array Value
  | some v => #[.string v, .int .i64 0]
  | none => #[.string ⟨#[]⟩, .int .i64 20]
theorem chn_none_le (ks : List ByteArray) (u : ByteArray) (j : Nat) (h : chn (ks.take j) u = none) : chn ks u = none := by
  induction ks generalizing u j with
  | nil => simp [chn] at h
  | cons k r ih =>
    cases j with
    | zero => simp [chn] at h
    | succ j =>
      simp only [List.take_succ_cons, chn] at h ⊢
      split
      · rfl
      · rename_i hne; rw [if_neg hne] at h; exact ih _ j h
theorem chn_step (ks : List ByteArray) (u v : ByteArray) (j : Nat) (hj : j < ks.length) (h : chn (ks.take j) u = some v) : chn (ks.take (j + 1)) u = if tm ks[j] v = 0 then none else some (ek (tm ks[j] v)) := by
  induction ks generalizing u j with
  | nil => simp at hj
  | cons k r ih =>
    cases j with
    | zero =>
      simp only [List.take_zero, chn, Option.some.injEq] at h
      subst h
      simp [chn]
    | succ j =>
      simp only [List.take_succ_cons, chn] at h ⊢
      split at h
      · cases h
      · rename_i hne
        rw [if_neg hne]
        simpa using ih _ j (by simpa using hj) h
theorem chn_size (ks : List ByteArray) (u v : ByteArray) (hu : u.size = 32) (h : chn ks u = some v) : v.size = 32 := by
  induction ks generalizing u with
  | nil => simp only [chn, Option.some.injEq] at h; rw [← h]; exact hu
  | cons k r ih =>
    simp only [chn] at h
    split at h
    · cases h
    · exact ih _ (ek_size _) h
theorem wh_mem {ks : List ByteArray} (h : wh ks = true) (j : Nat) (hj : j < ks.length) : ks[j].size = 32 := by
  unfold wh at h
  rw [List.all_eq_true] at h
  simpa using h _ (List.getElem_mem hj)
set_option maxHeartbeats 1000000 in
theorem Chain_walk (u : ByteArray) (hu : u.size = 32) (a : Option Addr) (ks : List ByteArray) (n cap : Nat) (hn : Hid (ks.length = n)) (hn16 : n ≤ 16) (hw : Hid (wh ks = true)) (w : World) (hc : Hid (StrAt w a ks)) :
    Calls Tryz.prog 66 #[.string u, .slice a n cap] w fun e w' => e = .returned (.tuple (och (chn ks u))) ∧ Below w.heap.size w w' := by
  have hd : decide (u.size = 32) = true := by simpa using hu
  have hg : ¬ (16 : Int) < (n : Int) := by omega
  go_enter Tryz.func66, Tryz.ntmps66
  go_wp2_with fail
  refine Calls.mono (whole1_any u w.heap.size _ (by simp [go_sem])) ?_
  rintro e w1 ⟨rfl, hb⟩
  rw [hd]
  have B1 : Hid (Below w.heap.size w w1) := chain ((Below.refl _ _).alloc (Nat.le_refl _) _) hb
  clear hb
  go_wp2_with fail
  refine Calls.mono (whole_any a ks n cap hn (by omega) _ (hc.out.later B1.out)) ?_
  rintro e w2 ⟨rfl, hb⟩
  rw [hw.out]
  have B2 : Hid (Below w.heap.size w w2) := chain B1.out hb
  clear hb
  go_wp2_with fail
  refine Calls.mono (clone_any u (by omega) _) ?_
  rintro e w3 ⟨rfl, hb⟩
  have B3 : Hid (Below w.heap.size w w3) := chain B2.out hb
  clear hb
  go_wp2
  go_loopw [6, 27] (fun at_ i wr => ∃ (j : Nat) (v : ByteArray), j ≤ n ∧ i = .int .i64 j ∧ at_ = .string v ∧ Hid (v.size = 32 ∧ chn (ks.take j) u = some v ∧ Below w.heap.size w wr)) (fun _ i _ => n - (intOf i).toNat)
  case atStart => exact ⟨0, u, Nat.zero_le _, rfl, rfl, hu, rfl, B3.out⟩
  case round =>
    obtain ⟨j, v, hj, rfl, rfl, I⟩ := hrel
    by_cases hlt : j < n
    · have hk' : j < ks.length := by have := hn.out; omega
      obtain ⟨b, o, rfl, hcell⟩ := StrAt.later hc.out I.out.2.2 j hk'
      have HT := chn_step ks u v j hk' I.out.2.1
      have HK : Hid (ks[j].size = 32) := wh_mem hw.out j hk'
      generalize ks[j] = k at *
      by_cases h0 : tm k v = 0
      · rw [if_pos h0] at HT
        have FIN : Hid (chn ks u = none) := chn_none_le ks u (j + 1) HT
        have H0 : Hid (tm k v = 0) := h0
        clear HT h0
        go_wp2_with fail
        refine Calls.mono (Shared_weak k v HK.out I.out.1 H0.out _) ?_
        rintro e w5 ⟨rfl, hb⟩
        have B5 : Hid (Below w.heap.size w w5) := chain I.out.2.2 hb
        clear hb
        go_wp2
        go_ret2
        exact ⟨by rw [FIN.out]; rfl, B5.out⟩
      · rw [if_neg h0] at HT
        have H0 : Hid (tm k v ≠ 0 ∧ chn (ks.take (j + 1)) u = some (ek (tm k v))) := ⟨h0, HT⟩
        clear HT h0
        go_wp2_with fail
        refine Calls.mono (Shared_ok k v HK.out I.out.1 H0.out.1 _) ?_
        rintro e w5 ⟨rfl, hb⟩
        have B5 : Hid (Below w.heap.size w w5) := chain I.out.2.2 hb
        clear hb
        go_wp2
        go_roundw
        case rel => exact ⟨j + 1, ek (tm k v), by omega, by go_num, rfl, ek_size _, H0.out.2, B5.out⟩
        case measure => simp [intOf]; omega
    · have hkn : j = n := by omega
      subst hkn
      have FIN : Hid (chn ks u = some v) := by
        have := I.out.2.1
        rw [List.take_of_length_le (by have := hn.out; omega)] at this
        exact this
      go_wp2
      go_ret2
      exact ⟨by rw [FIN.out]; rfl, I.out.2.2⟩
end Go.Proofs.YtgnkkjknngblbaaGreatDoor.Crv
namespace Go.Proofs.Ed
open Go.Proofs.Fd
def itr {α β : Type} (f : α → β → β) : List α → β → β
  | [], u => u
  | k :: ks, u => itr f ks (f k u)
theorem itr_nil {α β : Type} (f : α → β → β) (u : β) : itr f [] u = u := rfl
theorem itr_cons {α β : Type} (f : α → β → β) (k : α) (ks : List α) (u : β) : itr f (k :: ks) u = itr f ks (f k u) := rfl
theorem itr_app {α β : Type} (f : α → β → β) (a b : List α) (u : β) : itr f (a ++ b) u = itr f b (itr f a u) := by
  induction a generalizing u with
  | nil => rfl
  | cons k a ih => rw [List.cons_append, itr_cons, itr_cons, ih]
def prd : List Nat → Nat
  | [] => 1
  | k :: ks => prd ks * k
theorem prd_app (a b : List Nat) : prd (a ++ b) = prd a * prd b := by
  induction a with
  | nil => simp [prd]
  | cons k a ih => simp only [List.cons_append, prd, ih]; rw [Nat.mul_right_comm]
theorem prd_not (ks : List Nat) (h : ∀ k ∈ ks, Cl k) : ¬ ell ∣ prd ks := by
  induction ks with
  | nil =>
    intro hd
    have := Nat.le_of_dvd (by decide) hd
    unfold ell prd at this
    omega
  | cons k ks ih =>
    intro hd
    rcases ell_pr.2 _ _ hd with g | g
    · exact ih (fun x hx => h x (List.mem_cons_of_mem _ hx)) g
    · exact cl_not (h k List.mem_cons_self) g
theorem not_mul {a b : Nat} (ha : ¬ ell ∣ a) (hb : ¬ ell ∣ b) : ¬ ell ∣ a * b := fun h => by
  rcases ell_pr.2 _ _ h with g | g
  · exact ha g
  · exact hb g
theorem ladC_U {d s : K} {R : Pt} (hc : Cv d s) (hR : On d R) (hr : 9 * s * (1 - R.2) = 1 + R.2) (ks : List Nat) (h : ∀ k ∈ ks, Cl k) (n : Nat) (hn : ¬ ell ∣ n) :
    itr lad ks (U s (mu d n R).2) = U s (mu d (prd ks * n) R).2 := by
  induction ks generalizing n with
  | nil => rw [itr_nil]; simp only [prd, Nat.one_mul]
  | cons k ks ih =>
    have hk := h k List.mem_cons_self
    have h0 : U s (mu d n R).2 ≠ 0 := fun e => hn (zero_dvd hc hR hr n e)
    have e := lad_U hc (mu_on hc.ns hR n) (U_ne hc.ss h0) h0 k hk.lt
    rw [mu_mul hc.ns hR] at e
    rw [itr_cons, e, ih (fun x hx => h x (List.mem_cons_of_mem _ hx)) (k * n) (not_mul (cl_not hk) hn)]
    simp only [prd]
    rw [Nat.mul_assoc]
theorem chain_base (ks : List Nat) (h : ∀ k ∈ ks, Cl k) : itr lad ks 9 ≠ 0 := by
  cases ks with
  | nil => rw [itr_nil]; exact nine_ne
  | cons k ks =>
    obtain ⟨d, s, R, hc, hR, hr⟩ := exists_pt 9 nine_ne
    have hk := h k List.mem_cons_self
    have hks : ∀ x ∈ ks, Cl x := fun x hx => h x (List.mem_cons_of_mem _ hx)
    have e : itr lad (k :: ks) 9 = U s (mu d (prd ks * k) R).2 := by
      rw [itr_cons, lad_U hc hR hr nine_ne k hk.lt, ladC_U hc hR hr ks hks k (cl_not hk)]
    rw [e]
    exact fun h0 => not_mul (prd_not ks hks) (cl_not hk) (zero_dvd hc hR hr _ h0)
theorem chain_same (ks ls : List Nat) (hk : ∀ k ∈ ks, Cl k) (hl : ∀ k ∈ ls, Cl k) (k0 : ks ≠ []) (l0 : ls ≠ []) (h : prd ks = prd ls) : itr lad ks 9 = itr lad ls 9 := by
  obtain ⟨d, s, R, hc, hR, hr⟩ := exists_pt 9 nine_ne
  have key : ∀ ks : List Nat, (∀ k ∈ ks, Cl k) → ks ≠ [] → itr lad ks 9 = U s (mu d (prd ks) R).2 := fun ks hks hne => by
    cases ks with
    | nil => exact absurd rfl hne
    | cons k ks =>
      have hk := hks k List.mem_cons_self
      rw [itr_cons, lad_U hc hR hr nine_ne k hk.lt, ladC_U hc hR hr ks (fun x hx => hks x (List.mem_cons_of_mem _ hx)) k (cl_not hk)]
      simp only [prd]
  rw [key ks hk k0, key ls hl l0, h]
theorem chain_first (p : Nat) (ks : List Nat) (hp : Cl p) (hk : ∀ k ∈ ks, Cl k) : itr lad ks (lad p 9) = lad p (itr lad ks 9) := by
  have e1 : itr lad ks (lad p 9) = itr lad (p :: ks) 9 := (itr_cons lad p ks 9).symm
  have e2 : lad p (itr lad ks 9) = itr lad (ks ++ [p]) 9 := by rw [itr_app, itr_cons, itr_nil]
  rw [e1, e2]
  refine chain_same _ _ (fun x hx => ?_) (fun x hx => ?_) (by simp) (by simp) ?_
  · rcases List.mem_cons.1 hx with rfl | hx
    · exact hp
    · exact hk x hx
  · rcases List.mem_append.1 hx with hx | hx
    · exact hk x hx
    · simp at hx; subst hx; exact hp
  · rw [prd_app]; simp [prd]
end Go.Proofs.Ed
