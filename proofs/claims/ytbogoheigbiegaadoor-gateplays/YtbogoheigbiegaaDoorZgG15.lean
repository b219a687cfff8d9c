/- Signers in memory; one is made, one is found. -/
import Derived.Test.YtbogoheigbiegaaDoorZgG14
import Derived.Laws.OwnMore
namespace Go.Proofs.YtbogoheigbiegaaDoor.Gat
open Go.RowKit Go.Proofs.Fd Go.Proofs.Gt
set_option maxRecDepth 20000
theorem range3 {w : World} {b : Nat} {x0 x1 x2 : Value} (h0 : w.cell? ⟨b, 0, none⟩ = some x0) (h1 : w.cell? ⟨b, 1, none⟩ = some x1) (h2 : w.cell? ⟨b, 2, none⟩ = some x2) : w.rangeAt b 0 [x0, x1, x2] := by
  intro j v hv
  rcases (by have := (List.getElem?_eq_some_iff.1 hv).1; simp at this; omega : j = 0 ∨ j = 1 ∨ j = 2) with rfl | rfl | rfl
  · simp at hv; subst hv; simpa using h0
  · simp at hv; subst hv; simpa using h1
  · simp at hv; subst hv; simpa using h2
abbrev sv3 (u : Int) (key : ByteArray) (q : Int) : Value := .agg #[.int .i64 u, .string key, .int .i64 q]
theorem res_signer (tmps : Array Value) (w : World) (b : Nat) (x : Array Value) (h0 : tmps.getD 2 undef = .pointer (some ⟨b, 0, none⟩))
    (l1 : (loadVar 70 ⟨b, 0, none⟩).run Tryd.prog w = .ok (.agg x) w) :
    (results Tryd.f27 tmps).run Tryd.prog w = .ok (.agg x) w := by
  unfold results
  rw [Tryd.results27]
  have h0' : tmps[2]?.getD undef = .pointer (some ⟨b, 0, none⟩) := by simpa using h0
  simp [h0', l1, asAddr]
set_option maxHeartbeats 1000000 in
theorem newSigner_any (u : Int) (key : ByteArray) (hk : key.size ≤ 140737488351232) (w : World) :
    Calls Tryd.prog 27 #[av u key] w fun e w' => e = .returned (sv3 u key 0) ∧ Below w.heap.size w w' := by
  have CL : Hid (∀ w, Calls Tryd.prog 46 #[.string key] w fun e w' => e = .returned (.string key) ∧ Below w.heap.size w w') := fun w => sclone_any key (by omega) w
  clear hk
  unfold av
  go_enter Tryd.func27, Tryd.ntmps27
  go_wp2_with fail
  refine Calls.mono (CL.out _) ?_
  rintro e w1 ⟨rfl, hb⟩
  have k0 : w1.cell? ⟨w.heap.size, 0, none⟩ = some (.int .i64 u) := cell_later hb (by simp [go_sem])
  have k1 : w1.cell? ⟨w.heap.size, 1, none⟩ = some (.string key) := cell_later hb (by simp [go_sem])
  have k2 : ∀ o, w1.frozen? ⟨w.heap.size, o, none⟩ = false := fun o => (frozen_kept hb (by simp; omega)).trans (by simp [go_sem])
  have j0 : w1.cell? ⟨w.heap.size + 1, 0, none⟩ = some (.int .i64 0) := cell_later hb (by simp [go_sem])
  have j1 : w1.cell? ⟨w.heap.size + 1, 1, none⟩ = some (.string ⟨#[]⟩) := cell_later hb (by simp [go_sem])
  have j2 : w1.cell? ⟨w.heap.size + 1, 2, none⟩ = some (.int .i64 0) := cell_later hb (by simp [go_sem])
  have j3 : ∀ o, w1.frozen? ⟨w.heap.size + 1, o, none⟩ = false := fun o => (frozen_kept hb (by simp)).trans (by simp [go_sem])
  have B1 : Hid (Below w.heap.size w w1) := chain (((Below.refl _ w).alloc (Nat.le_refl _) _).alloc (by simp) _) hb
  have FI : Hid (Below w.heap.size w ((((w1.setCell ⟨w.heap.size, 1, none⟩ (.string key)).setCell ⟨w.heap.size + 1, 0, none⟩ (.int .i64 u)).setCell ⟨w.heap.size + 1, 1, none⟩ (.string key)).setCell ⟨w.heap.size + 1, 2, none⟩ (.int .i64 0))
      ∧ ((((w1.setCell ⟨w.heap.size, 1, none⟩ (.string key)).setCell ⟨w.heap.size + 1, 0, none⟩ (.int .i64 u)).setCell ⟨w.heap.size + 1, 1, none⟩ (.string key)).setCell ⟨w.heap.size + 1, 2, none⟩ (.int .i64 0)).rangeAt (w.heap.size + 1) 0 [.int .i64 u, .string key, .int .i64 0]) :=
    ⟨(((B1.out.setCell (p := ⟨w.heap.size, 1, none⟩) (Nat.le_refl w.heap.size) _).setCell (p := ⟨w.heap.size + 1, 0, none⟩) (Nat.le_succ w.heap.size) _).setCell (p := ⟨w.heap.size + 1, 1, none⟩) (Nat.le_succ w.heap.size) _).setCell (p := ⟨w.heap.size + 1, 2, none⟩) (Nat.le_succ w.heap.size) _,
      range3 (by simp [go_sem, j0]) (by simp [go_sem, j1]) (by simp [go_sem, j2])⟩
  clear hb CL B1
  go_wp2
  refine bodyPost_ret (v := sv3 u key 0) ?_ rfl ⟨rfl, FI.out.1⟩
  exact res_signer _ _ (w.heap.size + 1) _ (by kernel_rfl) (run_loadVar_mid _ (w.heap.size + 1) 0 70 [.int .i64 u, .string key, .int .i64 0] _ FI.out.2 Tryd.underlying70 rfl (by kernel_rfl))
def sic (s : Si) : List Value := [.int .i64 s.u, .string s.k, .int .i64 s.q]
def sics : List Si → List Value
  | [] => []
  | s :: l => sic s ++ sics l
theorem sics_app : ∀ l m : List Si, sics (l ++ m) = sics l ++ sics m
  | [], _ => rfl
  | s :: l, m => by rw [List.cons_append, sics, sics_app l m, sics, List.append_assoc]
theorem sics_len : ∀ l : List Si, (sics l).length = l.length * 3
  | [] => rfl
  | s :: l => by rw [sics, List.length_append, sics_len l, List.length_cons, sic]; simp; omega
theorem sics_one : ∀ (l : List Si), ∀ u ∈ sics l, u.oneCell' = true
  | [], u, h => by cases h
  | s :: l, u, h => by
    rw [sics, List.mem_append] at h
    rcases h with h | h
    · simp only [sic, List.mem_cons, List.not_mem_nil, or_false] at h
      rcases h with rfl | rfl | rfl <;> rfl
    · exact sics_one l u h
theorem sics_get : ∀ (l : List Si) (i : Nat) (hi : i < l.length), (sics l)[i * 3]? = some (.int .i64 l[i].u) ∧ (sics l)[i * 3 + 1]? = some (.string l[i].k) ∧ (sics l)[i * 3 + 2]? = some (.int .i64 l[i].q)
  | [], i, hi => absurd hi (Nat.not_lt_zero _)
  | s :: l, 0, _ => ⟨rfl, rfl, rfl⟩
  | s :: l, i + 1, hi => by
    have ih := sics_get l i (by simpa using hi)
    rw [show (i + 1) * 3 = i * 3 + 3 by omega]
    exact ih
theorem infoSi : (Tryd.prog.info? 70).map (fun i => (i.zero, i.size, i.bytes)) = some (some (.agg #[.int .i64 0, .string ⟨#[]⟩, .int .i64 0]), 3, 32) := by kernel_rfl
def SiAt (w : World) (g : Nat) (L : List Si) : Prop := ∀ i (hi : i < L.length), w.cell? ⟨g, i * 3, none⟩ = some (.int .i64 L[i].u) ∧ w.cell? ⟨g, i * 3 + 1, none⟩ = some (.string L[i].k) ∧ w.cell? ⟨g, i * 3 + 2, none⟩ = some (.int .i64 L[i].q) ∧ w.frozen? ⟨g, i * 3 + 2, none⟩ = false
theorem SiAt.same {w w' : World} {g : Nat} {L : List Si} (h : SiAt w g L) (e : w'.heap[g]? = w.heap[g]?) : SiAt w' g L := fun i hi => by
  obtain ⟨h0, h1, h2, h3⟩ := h i hi
  exact ⟨(World.cell?_of_block (a := ⟨g, _, none⟩) e).trans h0, (World.cell?_of_block (a := ⟨g, _, none⟩) e).trans h1, (World.cell?_of_block (a := ⟨g, _, none⟩) e).trans h2, (World.frozen?_of_block (a := ⟨g, _, none⟩) e).trans h3⟩
theorem SiAt.nil (w : World) (g : Nat) : SiAt w g [] := fun _ hi => absurd hi (Nat.not_lt_zero _)
theorem SiAt.later {w w' : World} {g : Nat} {L : List Si} (h : SiAt w g L) (hb : Below w.heap.size w w') : SiAt w' g L := fun i hi => (h.same (hb.block g (World.block_lt_of_cell? _ _ (h i hi).1))) i hi
theorem own_si {w : World} {base n : Nat} {v : Value} {L : List Si} (h : w.ownsRow base 70 3 v n (sics L)) : L.length = n ∧ ((v = .slice none 0 0 ∧ n = 0) ∨ ∃ g cap, v = .slice (some ⟨g, 0, none⟩) n cap ∧ base ≤ g ∧ SiAt w g L) := by
  obtain ⟨h1, h2⟩ := h
  have hl : L.length = n := by rw [sics_len] at h1; omega
  refine ⟨hl, ?_⟩
  rcases h2 with h2 | ⟨g, cap, cur, rfl, hbg, hh, h3, h4, h5, ht⟩
  · exact .inl h2
  · refine .inr ⟨g, cap, rfl, hbg, fun i hi => ?_⟩
    have key : ∀ j u, (sics L)[j]? = some u → w.cell? ⟨g, j, none⟩ = some u := fun j u hu => by
      have hj : j < L.length * 3 := by have := (List.getElem?_eq_some_iff.1 hu).1; rw [sics_len] at this; exact this
      have e : cur[j]? = (sics L)[j]? := by
        rw [← ht, List.getElem?_take_of_lt (by omega)]; simp
      unfold World.cell?
      rw [hh]
      simp only [Option.isSome_none]
      show cur[j]? = _
      rw [e]; exact hu
    obtain ⟨g0, g1, g2⟩ := sics_get L i hi
    refine ⟨key _ _ g0, key _ _ g1, key _ _ g2, ?_⟩
    unfold World.frozen?
    rw [hh]
    rfl
structure GAt (w : World) (p g : Nat) (L : List Si) : Prop where
  c : ∃ a cap, w.cell? ⟨p, 0, none⟩ = some (.slice a L.length cap) ∧ (L = [] ∨ a = some ⟨g, 0, none⟩)
  s : SiAt w g L
  ne : p ≠ g
  le : L.length ≤ 64
  k : ∀ i (hi : i < L.length), L[i].k.size = 32
theorem GAt.lt {w : World} {p g : Nat} {L : List Si} (h : GAt w p g L) : p < w.heap.size := by
  obtain ⟨a, cap, h1, -⟩ := h.c
  exact World.block_lt_of_cell? _ _ h1
theorem GAt.later {w w' : World} {p g : Nat} {L : List Si} (h : GAt w p g L) (hb : Below w.heap.size w w') : GAt w' p g L := by
  obtain ⟨⟨a, cap, h1, h2⟩, s, ne, le, k⟩ := h
  exact ⟨⟨a, cap, cell_later hb h1, h2⟩, s.later hb, ne, le, k⟩
theorem GAt.apart {F : Nat → Prop} {w w' : World} {p g : Nat} {L : List Si} (h : GAt w p g L) (hb : Bf F w w') (hp : ¬ F p) (hg : ¬ F g) : GAt w' p g L := by
  obtain ⟨⟨a, cap, h1, h2⟩, s, ne, le, k⟩ := h
  refine ⟨⟨a, cap, hb.cell h1 hp, h2⟩, fun i hi => ?_, ne, le, k⟩
  have hlt : g < w.heap.size := World.block_lt_of_cell? _ _ (s i hi).1
  exact (s.same (hb.block g hlt hg)) i hi
def ptrOf (g : Nat) (L : List Si) (u : Int) : Option Addr := if at' L u < L.length then some ⟨g, at' L u * 3, none⟩ else none
theorem ret_p {V b : Option Addr} (h : V = b) : Ending.returned (.pointer b) = Ending.returned (.pointer V) := by rw [h]
set_option maxHeartbeats 1000000 in
theorem signer_any (p g : Nat) (L : List Si) (u : Int) (w : World) (h : Hid (GAt w p g L)) :
    Calls Tryd.prog 33 #[.pointer (some ⟨p, 0, none⟩), .int .i64 u] w fun e w' => e = .returned (.pointer (ptrOf g L u)) ∧ Below w.heap.size w w' := by
  obtain ⟨E, hE⟩ : ∃ E, ptrOf g L u = E := ⟨_, rfl⟩
  have HE : Hid (ptrOf g L u = E) := hE
  rw [hE]
  clear hE
  obtain ⟨a, cap, c0, ha⟩ := h.out.c
  obtain ⟨n, hn⟩ : ∃ n, L.length = n := ⟨_, rfl⟩
  have HN : Hid (L.length = n) := hn
  have h64 : n ≤ 64 := by have := h.out.le; omega
  have HA : Hid (L = [] ∨ a = some ⟨g, 0, none⟩) := ha
  rw [hn] at c0
  clear hn ha
  go_enter Tryd.func33, Tryd.ntmps33
  go_wp2
  go_loopw [12] (fun i wr => ∃ k : Nat, k ≤ n ∧ i = .int .i64 (k : Int) ∧ Hid ((∀ j (hj : j < L.length), j < k → ¬ L[j].u = u) ∧ wr = w)) (fun i _ => n - (intOf i).toNat)
  case atStart => exact ⟨0, Nat.zero_le _, rfl, fun j hj q => absurd q (Nat.not_lt_zero _), rfl⟩
  case round =>
    obtain ⟨k, hk, rfl, I⟩ := hrel
    obtain ⟨hno, hw⟩ := I.out
    subst hw
    have NO : Hid (∀ j (hj : j < L.length), j < k → ¬ L[j].u = u) := hno
    clear hno I
    by_cases hlt : k < n
    · have hk' : k < L.length := by rw [HN.out]; exact hlt
      have g1 : (k : Int) < (n : Int) := by omega
      obtain rfl : a = some ⟨g, 0, none⟩ := by
        rcases HA.out with q | q
        · rw [q] at hk'; exact absurd hk' (Nat.not_lt_zero _)
        · exact q
      obtain ⟨s0, s1, s2, s3⟩ := h.out.s k hk'
      by_cases hu : L[k].u = u
      · have E1 : Hid (E = some ⟨g, k * 3, none⟩) := by
          show _ = _
          rw [← HE.out]
          have := at_is L u k hk' hu NO.out
          unfold ptrOf
          rw [this, if_pos hk']
        rw [hu] at s0
        clear hu s1 s2 s3 HE NO
        go_wp2
        go_ret
        exact ⟨ret_p E1.out, Below.refl _ _⟩
      · have N2 : Hid (∀ j (hj : j < L.length), j < k + 1 → ¬ L[j].u = u) := fun j hj q => by
          by_cases e : j = k
          · subst e; exact hu
          · exact NO.out j hj (by omega)
        generalize L[k].u = x at hu s0
        clear s1 s2 s3 NO
        go_wp2
        go_roundw
        case rel => exact ⟨k + 1, by omega, by go_num, N2.out, trivial⟩
        case measure => simp [intOf]; omega
    · obtain rfl : k = n := by omega
      have E1 : Hid (E = none) := by
        show _ = _
        rw [← HE.out]
        unfold ptrOf
        rw [at_none L u (fun j hj => NO.out j hj (by rw [← HN.out]; exact hj)), if_neg (Nat.lt_irrefl _)]
      clear HE NO
      go_wp2
      go_ret
      exact ⟨ret_p E1.out, Below.refl _ _⟩
end Go.Proofs.YtbogoheigbiegaaDoor.Gat
