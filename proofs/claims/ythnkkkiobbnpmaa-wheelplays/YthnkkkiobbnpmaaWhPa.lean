/- The law's helpers: an act's time, numbers spoilt; the wheel and the document's side by side. -/
import Derived.Test.YthnkkkiobbnpmaaWhRe
import Derived.Test.YthnkkkiobbnpmaaWhLd
namespace Go.Proofs.Ythnkkkiobbnpmaa
open Go.RowKit Go.Proofs.Fd Go.Proofs.Wh
set_option maxRecDepth 20000

theorem time_is (kd a i : Int) (far : Bool) (now : Int) :
    ∃ y : Int, ∀ w, Calls Try.prog 10 #[.agg #[.int .i64 kd, .int .i64 a, .int .i64 i, .bool far], .int .i64 now] w fun e w' => e = .returned (.int .i64 y) ∧ Below w.heap.size w w' := by
  have key : ∀ y, (∀ w, Calls Try.prog 10 #[.agg #[.int .i64 kd, .int .i64 a, .int .i64 i, .bool far], .int .i64 now] w fun e w' => e = .returned (.int .i64 y) ∧ w' = w.alloc (.cells #[.int .i64 kd, .int .i64 a, .int .i64 i, .bool far] 31)) → ∃ y : Int, ∀ w, Calls Try.prog 10 #[.agg #[.int .i64 kd, .int .i64 a, .int .i64 i, .bool far], .int .i64 now] w fun e w' => e = .returned (.int .i64 y) ∧ Below w.heap.size w w' := fun y h => ⟨y, fun w => (h w).mono fun _ _ ⟨h1, h2⟩ => ⟨h1, by rw [h2]; exact (Below.refl _ _).alloc (Nat.le_refl _) _⟩⟩
  cases far
  · by_cases h1 : (2199023255552 : Int) < a
    · refine key a (fun w => ?_)
      go_enter Try.func10, Try.ntmps10
      go_wp2
      go_ret
      exact ⟨rfl, rfl⟩
    · by_cases h2 : a < (-2199023255552 : Int)
      · refine key a (fun w => ?_)
        go_enter Try.func10, Try.ntmps10
        go_wp2
        go_ret
        exact ⟨rfl, rfl⟩
      · obtain ⟨z, hz⟩ : ∃ z, IntKind.i64.wrap (now + a) = z := ⟨_, rfl⟩
        refine key z (fun w => ?_)
        go_enter Try.func10, Try.ntmps10
        go_wp2
        go_ret
        exact ⟨rfl, rfl⟩
  · refine key a (fun w => ?_)
    go_enter Try.func10, Try.ntmps10
    go_wp2
    go_ret
    exact ⟨rfl, rfl⟩
/-- Cells that can be written. -/
def Room (w : World) (g n : Nat) : Prop := ∀ i, i < n → (∃ u, w.cell? ⟨g, i, none⟩ = some u) ∧ w.frozen? ⟨g, i, none⟩ = false
theorem Room.set {w : World} {g n : Nat} (h : Room w g n) (k : Nat) (x : Value) : Room (w.setCell ⟨g, k, none⟩ x) g n := fun i hi => by
  obtain ⟨⟨u, h1⟩, h2⟩ := h i hi
  refine ⟨?_, by rw [World.frozen?_setCell]; exact h2⟩
  by_cases e : k = i
  · subst e
    exact ⟨x, by rw [World.cell?_setCell_same _ _ _ (by rw [h1])]⟩
  · exact ⟨u, by rw [World.cell?_setCell_other _ _ _ _ (fun q => e (by injection q with q1 q2 q3)), h1]⟩
set_option maxHeartbeats 1000000 in
theorem spoil_any (a : Option Addr) (n c : Nat) (x : Int) (l : List Int) (w : World) (h : OwnsI w (.slice a n c) l) :
    Calls Try.prog 19 #[.slice a n c, .int .i64 x] w fun e w' => e = .returned (.tuple #[]) ∧ Bf (fun g => (Value.slice a n c).ownBlock = some g) w w' := by
  rcases h.2 with ⟨e, -⟩ | ⟨g, cap, cur, e, -, hb, hc, hM, hs, -⟩
  · injection e with e1 e2 e3
    subst e1 e2 e3
    have FF : Hid (Bf (fun g => (Value.slice none 0 0).ownBlock = some g) w w) := Bf.refl _ _
    clear h
    go_enter Try.func19, Try.ntmps19
    go_wp2_with fail
    go_loopw [4] (fun i wr => i = .int .i64 0 ∧ w = wr) (fun i wr => 0)
    case atStart => exact ⟨rfl, rfl⟩
    case round =>
      obtain ⟨rfl, hw⟩ := hrel
      subst hw
      go_wp2
      go_end0
      exact ⟨rfl, FF.out⟩
  · injection e with e1 e2 e3
    subst e1 e2 e3
    have hcap : c ≤ 9223372036854775807 := by unfold maxLen at hM; omega
    have hcc : (c : Int) ≤ (c : Int) := Int.le_refl _
    have R0 : Hid (Room w g c) := fun i hi => by
      rw [Nat.mul_one] at hs
      have hi2 : i < cur.size := by omega
      exact ⟨⟨cur[i], by simp [World.cell?, hb, hi2]⟩, by simp [World.frozen?, hb]⟩
    clear h hb hc hM hs
    go_enter Try.func19, Try.ntmps19
    go_wp2_with fail
    go_loopw [4] (fun i wr => ∃ k : Nat, k ≤ c ∧ i = .int .i64 (k : Int) ∧ Hid (Room wr g c ∧ Bf (fun q => q = g) w wr)) (fun i wr => c - (intOf i).toNat)
    case atStart => exact ⟨0, Nat.zero_le _, rfl, R0.out, Bf.refl _ _⟩
    case round =>
      obtain ⟨k, hk, rfl, I⟩ := hrel
      clear R0
      by_cases hkc : k < c
      · obtain ⟨⟨u, c1⟩, c2⟩ := I.out.1 k hkc
        have gk : (k : Int) < (c : Int) := by omega
        have J : Hid (Room (wr.setCell ⟨g, k, none⟩ (.int .i64 x)) g c ∧ Bf (fun q => q = g) w (wr.setCell ⟨g, k, none⟩ (.int .i64 x))) := ⟨I.out.1.set _ _, I.out.2.trans (Nx.refl _ _) ⟨rfl, rfl, rfl, by simp, fun q _ hq => Below.heap_setCell wr ⟨g, k, none⟩ _ q hq⟩⟩
        clear I
        go_wp2
        go_roundw
        case rel => exact ⟨k + 1, by omega, by go_num, J.out⟩
        case measure => simp [intOf]; omega
      · obtain rfl : k = c := by omega
        have FF : Hid (Bf (fun q => (Value.slice (some ⟨g, 0, none⟩) l.length k).ownBlock = some q) w wr) := ⟨I.out.2.os, I.out.2.tape, I.out.2.output, I.out.2.size, fun q hq hn => I.out.2.block q hq (fun e => hn (by subst e; rfl))⟩
        clear I
        go_wp2
        go_end0
        exact ⟨rfl, FF.out⟩
/-- The wheel and the document's. -/
structure Bo (w wr : World) (p d : Nat) (F : Nat → Prop) (v : Value) (s t : St) : Prop where
  wl : Wl w wr p F s
  da : DAt wr d v t
  a1 : ¬ F d
  a2 : ∀ g, v.ownBlock = some g → ¬ F g
  n1 : w.heap.size ≤ d
  n2 : ∀ g, v.ownBlock = some g → w.heap.size ≤ g
theorem Bo.one {w wr w' : World} {p d : Nat} {F F' : Nat → Prop} {v : Value} {s s' t : St} (h : Bo w wr p d F v s t) (h1 : Wl w w' p F' s') (h2 : Nx wr F F') (h3 : Bf F wr w') : Bo w w' p d F' v s' t :=
  ⟨h1, h.da.other h3 h.a1 h.a2, fun c => by
    rcases h2 d c with e | e
    · exact h.a1 e
    · have := h.da.lt
      omega, fun g hg c => by
    rcases h2 g c with e | e
    · exact h.a2 g hg e
    · have := (h.da.row.lt g hg).2
      omega, h.n1, h.n2⟩
theorem Bo.two {w wr w' : World} {p d : Nat} {F : Nat → Prop} {v : Value} {s t t' : St} (h : Bo w wr p d F v s t) (k : DSt wr d v t' w') : ∃ u, Bo w w' p d F u s t' := by
  obtain ⟨u, k1, k2, k3⟩ := k
  have hB : Below w.heap.size w w' := h.wl.below.trans (k3.below (fun g e => by rw [e]; exact h.n1) h.wl.below.size)
  refine ⟨u, ⟨h.wl.at_.other k3 (fun g hg e => h.a1 (by rw [← e]; exact hg)), h.wl.new, hB⟩, k1, h.a1, fun g hg c => ?_, h.n1, fun g hg => ?_⟩
  · rcases k2 g hg with e | e
    · exact h.a2 g e c
    · have := h.wl.at_.lt c
      omega
  · rcases k2 g hg with e | e
    · exact h.n2 g e
    · have := h.wl.below.size
      omega
theorem Bo.later {w wr w' : World} {p d : Nat} {F : Nat → Prop} {v : Value} {s t : St} (h : Bo w wr p d F v s t) (hb : Below wr.heap.size wr w') : Bo w w' p d F v s t := ⟨h.wl.later hb, h.da.later hb, h.a1, h.a2, h.n1, h.n2⟩
theorem Bo.beside {w wr w' : World} {p d : Nat} {F : Nat → Prop} {v : Value} {s t : St} (h : Bo w wr p d F v s t) {G : Nat → Prop} (hb : Bf G wr w') (hG : ∀ g, G g → ¬ F g ∧ g ≠ d ∧ v.ownBlock ≠ some g ∧ w.heap.size ≤ g) : Bo w w' p d F v s t :=
  ⟨⟨h.wl.at_.other hb (fun g hF e => (hG g e).1 hF), h.wl.new, h.wl.below.trans (hb.below (fun g e => (hG g e).2.2.2) h.wl.below.size)⟩, h.da.other hb (fun c => (hG d c).2.1 rfl) (fun g e c => (hG g c).2.2.1 e), h.a1, h.a2, h.n1, h.n2⟩
end Go.Proofs.Ythnkkkiobbnpmaa
