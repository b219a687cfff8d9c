/- What Chain of package curve does. -/
import Derived.Test.YtdebfelgaiofeaaC9
import Derived.Test.YtdebfelgaiofeaaC10
namespace Go.Proofs.Ytdebfelgaiofeaa
open Go.RowKit Go.Proofs.Fd Go.Proofs.Ed

/-- A chain of scalars; none where a product is 0. -/
def chn : List ByteArray → ByteArray → Option ByteArray
  | [], u => some u
  | k :: r, u => if tm k u = 0 then none else chn r (ek (tm k u))

/-- What a chain answers. -/
def och : Option ByteArray → Array Value
  | some v => #[.string v, .int .i64 0]
  | none => #[.string ⟨#[]⟩, .int .i64 20]

theorem chn_none_le (ks : List ByteArray) (u : ByteArray) (j : Nat) (h : chn (ks.take j) u = none) : chn ks u = none := by
  induction ks generalizing u j with
  | nil => simp [chn] at h
  | cons k r ih =>
    cases j with
    | zero => simp [chn] at h
    | succ j =>
      simp only [List.take_succ_cons, chn] at h ⊢
      split
      · rfl
      · rename_i hne; rw [if_neg hne] at h; exact ih _ j h

theorem chn_step (ks : List ByteArray) (u v : ByteArray) (j : Nat) (hj : j < ks.length) (h : chn (ks.take j) u = some v) : chn (ks.take (j + 1)) u = if tm ks[j] v = 0 then none else some (ek (tm ks[j] v)) := by
  induction ks generalizing u j with
  | nil => simp at hj
  | cons k r ih =>
    cases j with
    | zero =>
      simp only [List.take_zero, chn, Option.some.injEq] at h
      subst h
      simp [chn]
    | succ j =>
      simp only [List.take_succ_cons, chn] at h ⊢
      split at h
      · cases h
      · rename_i hne
        rw [if_neg hne]
        simpa using ih _ j (by simpa using hj) h

theorem chn_size (ks : List ByteArray) (u v : ByteArray) (hu : u.size = 32) (h : chn ks u = some v) : v.size = 32 := by
  induction ks generalizing u with
  | nil => simp only [chn, Option.some.injEq] at h; rw [← h]; exact hu
  | cons k r ih =>
    simp only [chn] at h
    split at h
    · cases h
    · exact ih _ (ek_size _) h

theorem wh_mem {ks : List ByteArray} (h : wh ks = true) (j : Nat) (hj : j < ks.length) : ks[j].size = 32 := by
  unfold wh at h
  rw [List.all_eq_true] at h
  simpa using h _ (List.getElem_mem hj)

set_option maxHeartbeats 1000000 in
theorem Chain_walk (u : ByteArray) (hu : u.size = 32) (a : Option Addr) (ks : List ByteArray) (n cap : Nat) (hn : Hid (ks.length = n)) (hn16 : n ≤ 16) (hw : Hid (wh ks = true)) (w : World) (hc : Hid (StrAt w a ks)) :
    Calls Try.prog 18 #[.string u, .slice a n cap] w fun e w' => e = .returned (.tuple (och (chn ks u))) ∧ Below w.heap.size w w' := by
  have hd : decide (u.size = 32) = true := by simpa using hu
  have hg : ¬ (16 : Int) < (n : Int) := by omega
  go_enter Try.func18, Try.ntmps18
  go_wp2_with fail
  refine Calls.mono (whole1_any u w.heap.size _ (by simp [go_sem])) ?_
  rintro e w1 ⟨rfl, hb⟩
  rw [hd]
  have B1 : Hid (Below w.heap.size w w1) := chain ((Below.refl _ _).alloc (Nat.le_refl _) _) hb
  clear hb
  go_wp2_with fail
  refine Calls.mono (whole_any a ks n cap hn (by omega) _ (hc.out.later B1.out)) ?_
  rintro e w2 ⟨rfl, hb⟩
  rw [hw.out]
  have B2 : Hid (Below w.heap.size w w2) := chain B1.out hb
  clear hb
  go_wp2_with fail
  refine Calls.mono (clone_any u (by omega) _) ?_
  rintro e w3 ⟨rfl, hb⟩
  have B3 : Hid (Below w.heap.size w w3) := chain B2.out hb
  clear hb
  go_wp2
  go_loopw [6, 27] (fun at_ i wr => ∃ (j : Nat) (v : ByteArray), j ≤ n ∧ i = .int .i64 j ∧ at_ = .string v ∧ Hid (v.size = 32 ∧ chn (ks.take j) u = some v ∧ Below w.heap.size w wr)) (fun _ i _ => n - (intOf i).toNat)
  case atStart => exact ⟨0, u, Nat.zero_le _, rfl, rfl, hu, rfl, B3.out⟩
  case round =>
    obtain ⟨j, v, hj, rfl, rfl, I⟩ := hrel
    by_cases hlt : j < n
    · have hk' : j < ks.length := by have := hn.out; omega
      obtain ⟨b, o, rfl, hcell⟩ := StrAt.later hc.out I.out.2.2 j hk'
      have HT := chn_step ks u v j hk' I.out.2.1
      have HK : Hid (ks[j].size = 32) := wh_mem hw.out j hk'
      generalize ks[j] = k at *
      by_cases h0 : tm k v = 0
      · rw [if_pos h0] at HT
        have FIN : Hid (chn ks u = none) := chn_none_le ks u (j + 1) HT
        have H0 : Hid (tm k v = 0) := h0
        clear HT h0
        go_wp2_with fail
        refine Calls.mono (Shared_weak k v HK.out I.out.1 H0.out _) ?_
        rintro e w5 ⟨rfl, hb⟩
        have B5 : Hid (Below w.heap.size w w5) := chain I.out.2.2 hb
        clear hb
        go_wp2
        go_ret2
        exact ⟨by rw [FIN.out]; rfl, B5.out⟩
      · rw [if_neg h0] at HT
        have H0 : Hid (tm k v ≠ 0 ∧ chn (ks.take (j + 1)) u = some (ek (tm k v))) := ⟨h0, HT⟩
        clear HT h0
        go_wp2_with fail
        refine Calls.mono (Shared_ok k v HK.out I.out.1 H0.out.1 _) ?_
        rintro e w5 ⟨rfl, hb⟩
        have B5 : Hid (Below w.heap.size w w5) := chain I.out.2.2 hb
        clear hb
        go_wp2
        go_roundw
        case rel => exact ⟨j + 1, ek (tm k v), by omega, by go_num, rfl, ek_size _, H0.out.2, B5.out⟩
        case measure => simp [intOf]; omega
    · have hkn : j = n := by omega
      subst hkn
      have FIN : Hid (chn ks u = some v) := by
        have := I.out.2.1
        rw [List.take_of_length_le (by have := hn.out; omega)] at this
        exact this
      go_wp2
      go_ret2
      exact ⟨by rw [FIN.out]; rfl, I.out.2.2⟩

theorem Chain0_any (u : ByteArray) (hu : u.size = 32) (w : World) :
    Calls Try.prog 18 #[.string u, .slice none 0 0] w fun e w' => e = .returned (.tuple #[.string u, .int .i64 0]) ∧ Below w.heap.size w w' :=
  Chain_walk u hu none [] 0 0 rfl (by omega) rfl w (fun i hi => by simp at hi)

theorem Chain2_any (u x y : ByteArray) (hu : u.size = 32) (hx : x.size = 32) (hy : y.size = 32) (B : Nat) (w : World) (h0 : w.cell? ⟨B, 0, none⟩ = some (.string x)) (h1 : w.cell? ⟨B, 1, none⟩ = some (.string y)) :
    Calls Try.prog 18 #[.string u, .slice (some ⟨B, 0, none⟩) 2 2] w fun e w' => e = .returned (.tuple (och (chn [x, y] u))) ∧ Below w.heap.size w w' :=
  Chain_walk u hu (some ⟨B, 0, none⟩) [x, y] 2 2 rfl (by omega) (by show wh [x, y] = true; simp [wh, hx, hy]) w (strAt2 h0 h1)

end Go.Proofs.Ytdebfelgaiofeaa
