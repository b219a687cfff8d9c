/- The document's stream: words turned. -/
import Derived.Test.YtbkefhfbbhdpcaaDoorK1
import Derived.Test.YtbkefhfbbhdpcaaDoorK5
import Derived.Test.YtbkefhfbbhdpcaaDoorSM
namespace Go.Proofs.YtbkefhfbbhdpcaaDoor
open Go.RowKit Go.Proofs.Fd Go.Proofs.Hs Go.Proofs.Cc

set_option maxHeartbeats 400000 in
theorem rLeft_any (x : UInt32) (n : Nat) (h1 : 1 ≤ n) (h2 : n ≤ 31) (w : World) :
    Calls Tryd.prog 71 #[.int .u32 (tv x), .int .i64 (n : Int)] w fun e w' => e = .returned (.int .u32 (tv (lft x n))) ∧ ∃ m, w' = w.drewN m := by
  have HO : Hid (_ = _) := trn_or x (32 - n) (by omega) (by omega)
  obtain ⟨r, hr⟩ : ∃ r, 32 - n = r := ⟨_, rfl⟩
  have hn : 32 - r = n := by omega
  have e : lft x n = trn x r := by unfold lft; rw [hr]
  rw [e]
  rw [hr, hn] at HO
  have h3 : r ≤ 32 := by omega
  have h4 : (r : Int) ≤ 32 := by omega
  have h5 : IntKind.i64.wrap (32 - (n : Int)) = (r : Int) := by rw [IntKind.wrap_i64]; omega
  have h6 : (n : Int) ≤ 32 := by omega
  have h7 : (32 : Int) - (n : Int) = (r : Int) := by omega
  have h8 : ¬ (n : Int) < 0 := by omega
  have h9 : ¬ (r : Int) < 0 := by omega
  clear hr h1 h2 hn e
  go_enter Tryd.func71, Tryd.ntmps71
  go_wp2
  go_region
  all_goals
    go_wp2
    go_ret
    exact ⟨by rw [← HO.out]; rfl, 1, rfl⟩
attribute [local go_sem] and32 or32 xor32 add32 add32'

/-- Words that lie in a block, and may be written. -/
def QAt (w : World) (g : Nat) (l : List UInt32) : Prop := ∀ j (hj : j < l.length), w.cell? ⟨g, j, none⟩ = some (.int .u32 (tv l[j])) ∧ w.frozen? ⟨g, j, none⟩ = false
theorem QAt.later {W w1 : World} {b : Nat} {l : List UInt32} (h : QAt W b l) (hb : Below W.heap.size W w1) : QAt w1 b l := fun j hj => by
  obtain ⟨h0, h1⟩ := h j hj
  exact ⟨cell_later hb h0, (frozen_kept hb (World.block_lt_of_cell? _ _ h0)).trans h1⟩
theorem QAt.set {w : World} {b : Nat} {l : List UInt32} (h : QAt w b l) (k : Nat) (x : UInt32) : QAt (w.setCell ⟨b, k, none⟩ (.int .u32 (tv x))) b (l.set k x) := fun j hj => by
  obtain ⟨h0, h1⟩ := h j (by simpa using hj)
  refine ⟨?_, by simp [go_sem, h1]⟩
  by_cases e : k = j
  · subst e; simp [go_sem, h0]
  · have hne : (⟨b, k, none⟩ : Addr) ≠ ⟨b, j, none⟩ := fun q => e (by injection q)
    rw [World.cell?_setCell_other _ _ _ _ hne, h0]
    simp [e]
theorem QAt.at {w : World} {g : Nat} {l : List UInt32} (h : QAt w g l) (a : Nat) (ha : a < l.length) : w.cell? ⟨g, a, none⟩ = some (.int .u32 (tv (l.getD a 0))) ∧ w.frozen? ⟨g, a, none⟩ = false := by
  rw [List.getD_eq_getElem?_getD, List.getElem?_eq_getElem ha]
  exact h a ha
theorem QAt.drew {w : World} {g : Nat} {l : List UInt32} (h : QAt w g l) : QAt w.drew g l := h
theorem below_drewN {B : Nat} {a w : World} (h : Below B a w) (m : Nat) : Below B a (w.drewN m) := by
  induction m with
  | zero => exact h
  | succ m ih => exact ih.drew
/-- By how much words are turned. -/
def TurnsAt (w : World) (t : Nat) : Prop := w.cell? ⟨t, 0, none⟩ = some (.int .i64 16) ∧ w.cell? ⟨t, 1, none⟩ = some (.int .i64 12) ∧ w.cell? ⟨t, 2, none⟩ = some (.int .i64 8) ∧ w.cell? ⟨t, 3, none⟩ = some (.int .i64 7)
theorem TurnsAt.other {w : World} {t : Nat} (h : TurnsAt w t) {a : Addr} (hne : a.block ≠ t) (v : Value) : TurnsAt (w.setCell a v) t := ⟨cell_setCell h.1 hne, cell_setCell h.2.1 hne, cell_setCell h.2.2.1 hne, cell_setCell h.2.2.2 hne⟩
theorem QAt.other {w : World} {b : Nat} {l : List UInt32} (h : QAt w b l) {a : Addr} (hne : a.block ≠ b) (v : Value) : QAt (w.setCell a v) b l := fun j hj =>
  ⟨cell_setCell (h j hj).1 hne, (frozen_setCell hne).trans (h j hj).2⟩

end Go.Proofs.YtbkefhfbbhdpcaaDoor
