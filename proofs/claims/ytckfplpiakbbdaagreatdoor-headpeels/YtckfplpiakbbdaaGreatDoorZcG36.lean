/- Parts: RE, RB2, RP1. -/
import Derived.Test.YtckfplpiakbbdaaGreatDoorZcG35
import Derived.Laws.OwnMore
namespace Go.Proofs.YtckfplpiakbbdaaGreatDoor
open Go.RowKit Go.Proofs.Fd Go.Proofs.Rt
set_option maxRecDepth 20000
def CheckC : Prop := ∀ (h : Hp) (w : World), Hid (h.id.size ≤ 140737488355328) →
    Calls Tryz.prog 80 #[hv h] w fun e w' => e = .returned (.int .i64 (chk h)) ∧ Below w.heap.size w w'
def EncodeC : Prop := ∀ (h : Hp) (w : World), Hid (h.id.size ≤ 140737488355328) →
    Calls Tryz.prog 55 #[hv h] w fun e w' => e = .returned (.tuple (enV h)) ∧ Below w.heap.size w w'
def DecodeC : Prop := ∀ (b : ByteArray) (w : World), Hid (b.size ≤ 140737488355328) →
    Calls Tryz.prog 40 #[.string b] w fun e w' => e = .returned (.tuple (dcV b)) ∧ Below w.heap.size w w'
def PathC : Prop := ∀ (a : Option Addr) (hs : List Hp) (n cap : Nat) (w : World), Hid (hs.length = n) → Hid (n ≤ 140737488355328) → Hid (∀ h ∈ hs, h.id.size ≤ 140737488355328) → Hid (HopsAt w a hs) →
    Calls Tryz.prog 51 #[.slice a n cap] w fun e w' => e = .returned (.int .i64 (pth hs)) ∧ Below w.heap.size w w'
theorem hops_none (w : World) (a : Option Addr) : HopsAt w a [] := fun i hi => by simp at hi
end Go.Proofs.YtckfplpiakbbdaaGreatDoor
namespace Go.Proofs.YtckfplpiakbbdaaGreatDoor
open Go.RowKit Go.Proofs.Fd Go.Proofs.Rt
set_option maxRecDepth 20000
def hcells (l : List Hp) : List Value := l.flatMap fun h => [.int .i64 h.k, .int .i64 h.n, .int .i64 h.u, .int .i64 h.d, .string h.id]
theorem hcells_cons (h : Hp) (l : List Hp) : hcells (h :: l) = .int .i64 h.k :: .int .i64 h.n :: .int .i64 h.u :: .int .i64 h.d :: .string h.id :: hcells l := rfl
theorem hcells_len (l : List Hp) : (hcells l).length = l.length * 5 := by
  induction l with
  | nil => rfl
  | cons h l ih => rw [hcells_cons]; simp only [List.length_cons, ih]; omega
theorem hcells_at (l : List Hp) (i : Nat) (hi : i < l.length) : (hcells l)[i * 5]? = some (.int .i64 (l.getD i zh).k) ∧ (hcells l)[i * 5 + 1]? = some (.int .i64 (l.getD i zh).n) ∧ (hcells l)[i * 5 + 2]? = some (.int .i64 (l.getD i zh).u) ∧ (hcells l)[i * 5 + 3]? = some (.int .i64 (l.getD i zh).d) ∧ (hcells l)[i * 5 + 4]? = some (.string (l.getD i zh).id) := by
  induction l generalizing i with
  | nil => simp at hi
  | cons h l ih =>
    rw [hcells_cons]
    cases i with
    | zero => exact ⟨rfl, rfl, rfl, rfl, rfl⟩
    | succ i =>
      have := ih i (by simpa using hi)
      have e : (i + 1) * 5 = i * 5 + 5 := by omega
      rw [e]
      exact this
theorem hcells_one (l : List Hp) : ∀ u ∈ hcells l, u.oneCell' = true := by
  intro u hu
  unfold hcells at hu
  rw [List.mem_flatMap] at hu
  obtain ⟨h, -, hu⟩ := hu
  simp at hu
  rcases hu with rfl | rfl | rfl | rfl | rfl <;> rfl
theorem HopsAt.each {w : World} {b o : Nat} {l : List Hp} (h : HopsAt w (some ⟨b, o, none⟩) l) : ∀ j u, (hcells l)[j]? = some u → w.cell? (Addr.add ⟨b, o, none⟩ j) = some u := by
  intro j u hu
  have hj : j < l.length * 5 := by have := (List.getElem?_eq_some_iff.1 hu).1; rw [hcells_len] at this; exact this
  have q : Addr.add ⟨b, o, none⟩ j = ⟨b, o + j, none⟩ := by first | (simp [Addr.add]; done) | (simp [Addr.add]; intro h; simp [h])
  rw [q]
  obtain ⟨i, r, hr, rfl⟩ : ∃ i r, r < 5 ∧ j = i * 5 + r := ⟨j / 5, j % 5, by omega, by omega⟩
  obtain ⟨b', o', he, c0, c1, c2, c3, c4⟩ := h i (by omega)
  cases he
  obtain ⟨g0, g1, g2, g3, g4⟩ := hcells_at l i (by omega)
  rcases (by omega : r = 0 ∨ r = 1 ∨ r = 2 ∨ r = 3 ∨ r = 4) with rfl | rfl | rfl | rfl | rfl
  · rw [Nat.add_zero] at hu; rw [g0] at hu; cases hu; exact c0
  · rw [g1] at hu; cases hu; rw [← Nat.add_assoc]; exact c1
  · rw [g2] at hu; cases hu; rw [← Nat.add_assoc]; exact c2
  · rw [g3] at hu; cases hu; rw [← Nat.add_assoc]; exact c3
  · rw [g4] at hu; cases hu; rw [← Nat.add_assoc]; exact c4
theorem owns_hops {w : World} {base n : Nat} {v : Value} {l : List Hp} (h : w.ownsRow base 37 5 v n (hcells l)) : l.length = n ∧ ((v = .slice none 0 0 ∧ n = 0) ∨ ∃ g cap, v = .slice (some ⟨g, 0, none⟩) n cap ∧ HopsAt w (some ⟨g, 0, none⟩) l ∧ base ≤ g ∧ g < w.heap.size ∧ n ≤ cap ∧ cap ≤ maxLen) := by
  obtain ⟨h1, h2⟩ := h
  have hl : l.length = n := by rw [hcells_len] at h1; omega
  refine ⟨hl, ?_⟩
  rcases h2 with h2 | ⟨g, cap, cur, rfl, hb, hh, hcap, hml, -, ht⟩
  · exact .inl h2
  · have hg : g < w.heap.size := by obtain ⟨q, -⟩ := Array.getElem?_eq_some_iff.1 hh; exact q
    refine .inr ⟨g, cap, rfl, fun i hi => ⟨g, 0, rfl, ?_⟩, hb, hg, hcap, hml⟩
    have key : ∀ j, j < n * 5 → w.cell? ⟨g, 0 + j, none⟩ = (hcells l)[j]? := fun j hj => by
      have e : cur[j]? = (hcells l)[j]? := by
        rw [← ht, List.getElem?_take_of_lt hj]; simp
      rw [Nat.zero_add]
      unfold World.cell?
      rw [hh]
      simp only [Option.isSome_none]
      show cur[j]? = _
      rw [e]
    obtain ⟨g0, g1, g2, g3, g4⟩ := hcells_at l i hi
    refine ⟨?_, ?_, ?_, ?_, ?_⟩
    · rw [key (i * 5) (by omega)]; exact g0
    · rw [Nat.add_assoc, key (i * 5 + 1) (by omega)]; exact g1
    · rw [Nat.add_assoc, key (i * 5 + 2) (by omega)]; exact g2
    · rw [Nat.add_assoc, key (i * 5 + 3) (by omega)]; exact g3
    · rw [Nat.add_assoc, key (i * 5 + 4) (by omega)]; exact g4
theorem infoHop : (Tryz.prog.info? 37).map (fun i => (i.zero, i.size, i.bytes)) = some (some (.agg #[.int .i64 0, .int .i64 0, .int .i64 0, .int .i64 0, .string ⟨#[]⟩]), 5, 48) := by kernel_rfl
theorem heap_newr (w : World) (o : Obj) : (w.alloc o).heap[w.heap.size]? = some o := by
  show (w.heap.push o)[w.heap.size]? = some o
  simp
end Go.Proofs.YtckfplpiakbbdaaGreatDoor
namespace Go.Proofs.Rt
def nm (h : Hp) : Hp :=
  if h.k = 1 then ⟨h.k, h.n, 0, h.d, ⟨#[]⟩⟩ else if h.k = 2 then ⟨h.k, 0, h.u, h.d, h.id⟩ else if h.k = 3 then ⟨h.k, 0, 0, 0, h.id⟩ else ⟨h.k, 0, 0, 0, ⟨#[]⟩⟩
def wi (h : Hp) : Bool :=
  (!((h.k == 2 || h.k == 3) && !(h.id.size == 16))) && (decide (0 ≤ h.n) && decide (h.n < 32) && decide (0 ≤ h.u) && decide (h.u < 64) && decide (0 ≤ h.d) && decide (h.d ≤ 4096))
theorem ok_wi (h : Hp) (e : ok h = true) : wi h = true ∧ nm h = h ∧ 1 ≤ h.k ∧ h.k ≤ 4 := by
  obtain ⟨k, n, u, d, id⟩ := h
  rcases ok_cases _ e with ⟨h1, h2, h3, h4, h5, h6, h7⟩ | ⟨h1, h2, h3, h4, h5, h6, h7⟩ | ⟨h1, h2, h3, h4, h5⟩ | ⟨h1, h2, h3, h4, h5⟩ <;> simp only at h1 h2 h3 h4 h5 <;> (try simp only at h6 h7)
  · subst h1 h6 h7; simp [wi, nm]; omega
  · subst h1 h7; simp [wi, nm]; omega
  · subst h1 h3 h4 h5; simp [wi, nm]; omega
  · subst h1 h2 h3 h4 h5; simp [wi, nm]
theorem wi_ok (h : Hp) (h1 : 1 ≤ h.k) (h4 : h.k ≤ 4) (e : nm h = h) (hw : wi h = true) : ok h = true := by
  obtain ⟨k, n, u, d, id⟩ := h
  simp only at h1 h4
  unfold wi at hw
  simp only [Bool.and_eq_true, decide_eq_true_eq, Bool.not_eq_true', Bool.and_eq_false_iff, Bool.or_eq_false_iff, beq_eq_false_iff_ne, Bool.not_eq_false', beq_iff_eq] at hw
  obtain ⟨g, ⟨⟨⟨⟨g1, g2⟩, g3⟩, g4⟩, g5⟩, g6⟩ := hw
  rcases (by omega : k = 1 ∨ k = 2 ∨ k = 3 ∨ k = 4) with rfl | rfl | rfl | rfl
  · simp [nm] at e; obtain ⟨rfl, rfl⟩ := e; exact ok_on _ _ g1 g2 g5 g6
  · simp [nm] at e; subst e; exact ok_home _ _ _ g3 g4 g5 g6 (by simpa using g)
  · simp [nm] at e; obtain ⟨rfl, rfl, rfl⟩ := e; exact ok_loop _ (by simpa using g)
  · simp [nm] at e; obtain ⟨rfl, rfl, rfl, rfl⟩ := e; exact ok_drop
end Go.Proofs.Rt
namespace Go.Proofs.YtckfplpiakbbdaaGreatDoor
open Go.RowKit Go.Proofs.Fd Go.Proofs.Rt
set_option maxRecDepth 20000
theorem res_named (tmps : Array Value) (w : World) (b : Nat) (k n u d : Int) (id : ByteArray) (h2 : tmps.getD 2 undef = .pointer (some ⟨b, 0, none⟩)) (l : HopAt w b ⟨k, n, u, d, id⟩) :
    (results Tryz.f63 tmps).run Tryz.prog w = .ok (.agg #[.int .i64 k, .int .i64 n, .int .i64 u, .int .i64 d, .string id]) w := by
  have l1 := run_loadVar_mid (P := Tryz.prog) w b 0 37 [.int .i64 k, .int .i64 n, .int .i64 u, .int .i64 d, .string id] _ l.range Tryz.underlying37 rfl (by kernel_rfl)
  unfold results
  rw [Tryz.results63]
  have h2' : tmps[2]?.getD undef = .pointer (some ⟨b, 0, none⟩) := by simpa using h2
  simp [h2', l1, asAddr]
theorem fresh2 (w : World) (o : Obj) (t : TypeId) (k n u d : Int) (id : ByteArray) : HopAt ((w.alloc o).alloc (.cells #[.int .i64 k, .int .i64 n, .int .i64 u, .int .i64 d, .string id] t)) (w.heap.size + 1) ⟨k, n, u, d, id⟩ := by
  have h := HopAt.fresh (w.alloc o) t k n u d id
  have e : (w.alloc o).heap.size = w.heap.size + 1 := by simp
  rw [e] at h
  exact h
set_option maxHeartbeats 1000000 in
theorem named_any (h : Hp) (w : World) :
    Calls Tryz.prog 63 #[hv h] w fun e w' => e = .returned (hv (nm h)) ∧ Below w.heap.size w w' := by
  have B0 : Hid (∀ o p, Below w.heap.size w ((w.alloc o).alloc p)) := fun o p => ((Below.refl _ _).alloc (Nat.le_refl _) o).alloc (by simp) p
  obtain ⟨k, n, u, d, id⟩ := h
  unfold hv nm
  simp only
  by_cases h1 : k = 1
  · subst h1
    simp only [if_true]
    go_enter Tryz.func63, Tryz.ntmps63
    go_wp2
    refine bodyPost_ret (v := .agg #[.int .i64 1, .int .i64 n, .int .i64 0, .int .i64 d, .string ⟨#[]⟩]) ?_ rfl ⟨rfl, B0.out _ _⟩
    exact res_named _ _ (w.heap.size + 1) _ _ _ _ _ (by kernel_rfl) (fresh2 _ _ _ _ _ _ _ _)
  by_cases h2 : k = 2
  · subst h2
    simp only [if_true, if_neg h1]
    clear h1
    go_enter Tryz.func63, Tryz.ntmps63
    go_wp2
    refine bodyPost_ret (v := .agg #[.int .i64 2, .int .i64 0, .int .i64 u, .int .i64 d, .string id]) ?_ rfl ⟨rfl, B0.out _ _⟩
    exact res_named _ _ (w.heap.size + 1) _ _ _ _ _ (by kernel_rfl) (fresh2 _ _ _ _ _ _ _ _)
  by_cases h3 : k = 3
  · subst h3
    simp only [if_true, if_neg h1, if_neg h2]
    clear h1 h2
    go_enter Tryz.func63, Tryz.ntmps63
    go_wp2
    refine bodyPost_ret (v := .agg #[.int .i64 3, .int .i64 0, .int .i64 0, .int .i64 0, .string id]) ?_ rfl ⟨rfl, B0.out _ _⟩
    exact res_named _ _ (w.heap.size + 1) _ _ _ _ _ (by kernel_rfl) (fresh2 _ _ _ _ _ _ _ _)
  simp only [if_neg h1, if_neg h2, if_neg h3]
  go_enter Tryz.func63, Tryz.ntmps63
  go_wp2
  refine bodyPost_ret (v := .agg #[.int .i64 k, .int .i64 0, .int .i64 0, .int .i64 0, .string ⟨#[]⟩]) ?_ rfl ⟨rfl, B0.out _ _⟩
  exact res_named _ _ (w.heap.size + 1) _ _ _ _ _ (by kernel_rfl) (fresh2 _ _ _ _ _ _ _ _)
set_option maxHeartbeats 1000000 in
theorem within_t (h : Hp) (hw : wi h = true) (w : World) :
    Calls Tryz.prog 106 #[hv h] w fun e w' => e = .returned (.bool true) ∧ Below w.heap.size w w' := by
  have B0 : Hid (∀ o, Below w.heap.size w (w.alloc o)) := fun o => (Below.refl _ _).alloc (Nat.le_refl _) o
  obtain ⟨k, n, u, d, id⟩ := h
  unfold wi at hw
  simp only [Bool.and_eq_true, decide_eq_true_eq, Bool.not_eq_true', Bool.and_eq_false_iff, Bool.or_eq_false_iff, beq_eq_false_iff_ne, Bool.not_eq_false', beq_iff_eq] at hw
  obtain ⟨g, ⟨⟨⟨⟨g1, g2⟩, g3⟩, g4⟩, g5⟩, g6⟩ := hw
  unfold hv
  rcases g with ⟨q1, q2⟩ | q
  · go_enter Tryz.func106, Tryz.ntmps106
    go_wp2
    all_goals (go_ret; exact ⟨rfl, B0.out _⟩)
  · have z : (id.size : Int) = 16 := by omega
    go_enter Tryz.func106, Tryz.ntmps106
    go_wp2
    all_goals (go_ret; exact ⟨rfl, B0.out _⟩)
set_option maxHeartbeats 1000000 in
theorem within_f (h : Hp) (hw : ¬ wi h = true) (w : World) :
    Calls Tryz.prog 106 #[hv h] w fun e w' => e = .returned (.bool false) ∧ Below w.heap.size w w' := by
  have B0 : Hid (∀ o, Below w.heap.size w (w.alloc o)) := fun o => (Below.refl _ _).alloc (Nat.le_refl _) o
  obtain ⟨k, n, u, d, id⟩ := h
  have HK : Hid (¬ wi ⟨k, n, u, d, id⟩ = true) := hw
  clear hw
  unfold hv
  go_enter Tryz.func106, Tryz.ntmps106
  go_wp2
  all_goals (first
    | (go_ret; exact ⟨rfl, B0.out _⟩)
    | (exfalso; apply HK.out; unfold wi; simp_all; done)
    | (go_ret; refine ⟨?_, B0.out _⟩; show Ending.returned (.bool (decide (d ≤ 4096))) = _; rw [decide_eq_false]; intro q; apply HK.out; unfold wi; simp_all; try omega))
end Go.Proofs.YtckfplpiakbbdaaGreatDoor
