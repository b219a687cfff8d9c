/- Numbers that are lent, and looked at again. -/
import Derived.Test.YtpcgoimkflgcnaaDkX
import Derived.Laws.OwnMore
import Derived.Lib.AppendZeros
namespace Go.Proofs.Ytpcgoimkflgcnaa
open Go.RowKit Go.Proofs.Fd Go.Proofs.Dk
set_option maxRecDepth 20000

theorem infoInt : (Try.prog.info? 3).map (fun i => (i.zero, i.size, i.bytes)) = some (some (.int .i64 0), 1, 8) := by kernel_rfl
def Row (w : World) (g : Nat) (l : List Int) : Prop := ∀ j (hj : j < l.length), w.cell? ⟨g, j, none⟩ = some (.int .i64 l[j]) ∧ w.frozen? ⟨g, j, none⟩ = false
theorem Row.later {W w1 : World} {b : Nat} {l : List Int} (h : Row W b l) (hb : Below W.heap.size W w1) : Row w1 b l := fun j hj => by
  obtain ⟨h0, h1⟩ := h j hj
  exact ⟨cell_later hb h0, (frozen_kept hb (World.block_lt_of_cell? _ _ h0)).trans h1⟩
def icells (l : List Int) : List Value := l.map fun s => .int .i64 s
theorem icells_app (a b : List Int) : icells (a ++ b) = icells a ++ icells b := by unfold icells; rw [List.map_append]
theorem owns_ints {w : World} {base n : Nat} {v : Value} {l : List Int} (h : w.ownsRow base 3 1 v n (icells l)) : l.length = n ∧ ((v = .slice none 0 0 ∧ n = 0) ∨ ∃ g cap, v = .slice (some ⟨g, 0, none⟩) n cap ∧ Row w g l ∧ base ≤ g) := by
  obtain ⟨h1, h2⟩ := h
  have hl : l.length = n := by simpa [icells] using h1
  refine ⟨hl, ?_⟩
  rcases h2 with h2 | ⟨g, cap, cur, rfl, hb, hh, -, -, -, ht⟩
  · exact .inl h2
  · refine .inr ⟨g, cap, rfl, fun j hj => ⟨?_, ?_⟩, hb⟩
    · have e : cur[j]? = (icells l)[j]? := by
        rw [← ht, List.getElem?_take_of_lt (by omega)]; simp
      unfold World.cell?
      rw [hh]
      simp only [Option.isSome_none]
      show cur[j]? = _
      rw [e]; simp [icells, hj]
    · unfold World.frozen?
      rw [hh]
      simp
theorem one_at (w : World) (m : Int) (t : TypeId) : IntAt (w.alloc (.cells #[.int .i64 m] t)) (some ⟨w.heap.size, 0, none⟩) [m] := fun i hi => by
  obtain rfl : i = 0 := by simpa using hi
  exact ⟨w.heap.size, 0, rfl, by rw [World.cell?_alloc_new]; rfl⟩
theorem icells_len (l : List Int) : (icells l).length = l.length := by unfold icells; simp
theorem icells_one (l : List Int) : ∀ u ∈ icells l, u.oneCell' = true := by
  intro u hu
  simp only [icells, List.mem_map] at hu
  obtain ⟨x, -, rfl⟩ := hu
  rfl
theorem IntAt.each {w : World} {a : Addr} {ks : List Int} (h : IntAt w (some a) ks) : ∀ j u, (icells ks)[j]? = some u → w.cell? (a.add j) = some u := by
  intro j u hu
  have hj : j < ks.length := by have := (List.getElem?_eq_some_iff.1 hu).1; rw [icells_len] at this; exact this
  obtain ⟨b, o, e, hc⟩ := h j hj
  injection e with e
  subst e
  have q : Addr.add ⟨b, o, none⟩ j = ⟨b, o + j, none⟩ := by first | (simp [Addr.add]; done) | (simp [Addr.add]; intro h; simp [h])
  rw [q, hc, ← hu]
  simp [icells, hj]
theorem app_ints (w : World) (ty base : Nat) (v : Value) (m : Nat) (xs : List Value) (hown : w.ownsRow base 3 1 v m xs) (a : Option Addr) (ks : List Int) (n cap : Nat) (hn : ks.length = n) (ha : a = none → n = 0 ∧ cap = 0) (hc : IntAt w a ks) (hz : (m + n) * 8 ≤ 140737488355328) (hb : base ≤ w.heap.size) :
    ∃ v' w', (Builtin.append_ #[31, 31] ty #[v, .slice a n cap]).run Try.prog w = .ok v' w' ∧ w'.ownsRow base 3 1 v' (m + n) (xs ++ icells ks) ∧ w.grownBy w' v.ownBlock := by
  obtain ⟨i0, hi, hz0, hz1, hz2⟩ := info_parts infoInt
  cases a with
  | none =>
    obtain ⟨rfl, rfl⟩ := ha rfl
    obtain rfl := List.length_eq_zero_iff.1 hn
    exact ⟨v, w, run_append_owned_none (P := Try.prog) w base 31 ty 3 i0 1 Try.underlying31 hi v m xs hown, by simpa [icells] using hown, ⟨rfl, rfl, rfl, Nat.le_refl _, fun _ _ _ => rfl⟩⟩
  | some a =>
    obtain ⟨v', w', h1, h2, h3, -⟩ := run_append_own (P := Try.prog) w base 31 ty 3 i0 (.int .i64 0) 1 8 Try.underlying31 hi hz0 hz1 hz2 rfl (by decide) v m xs hown a n cap (icells ks) (by rw [icells_len, hn]; omega) hc.each (icells_one ks) (by unfold maxLen; omega) hz hb
    exact ⟨v', w', h1, h2, h3⟩
theorem own_room {w : World} {base : Nat} {e : TypeId} {size g n cap : Nat} {xs : List Value} (h : w.ownsRow base e size (.slice (some ⟨g, 0, none⟩) n cap) n xs) : n ≤ cap := by
  rcases h.2 with ⟨h1, -⟩ | ⟨g', cap', cur, h1, -, -, h2, -⟩
  · cases h1
  · cases h1
    exact h2
/-- A copy, and a mark behind it. -/
theorem lend_runs (w : World) (a : Option Addr) (L : List Int) (n cap : Nat) (hn : L.length = n) (ha : a = none → n = 0 ∧ cap = 0) (hz : n * 8 ≤ 140737488351232) (hc : IntAt w a L) :
    ∃ v1 w1 g c W, (Builtin.append_ #[31, 31] 31 #[.slice (some ⟨w.heap.size, 0, none⟩) 0 0, .slice a n cap]).run Try.prog (w.alloc (.cells #[] 3)) = .ok v1 w1
      ∧ (Builtin.append_ #[31, 31] 31 #[v1, .slice (some ⟨w1.heap.size, 0, none⟩) 1 1]).run Try.prog (w1.alloc (.cells #[.int .i64 (-77)] 3)) = .ok (.slice (some ⟨g, 0, none⟩) (n + 1) c) W
      ∧ Row W g (L ++ [-77]) ∧ n + 1 ≤ c ∧ w.heap.size ≤ g ∧ Below w.heap.size w W := by
  have hb : Below w.heap.size w (w.alloc (.cells #[] 3)) := (Below.refl _ _).alloc (Nat.le_refl _) _
  have o0 := World.ownsRow_made (base := w.heap.size) (e := 3) (size := 1) w #[] 0 (Nat.le_refl _) (Nat.zero_le _) rfl
  obtain ⟨v1, w1, h1, h2, h3⟩ := app_ints _ 31 w.heap.size _ 0 [] o0 a L n cap hn ha (hc.later hb) (by omega) (by simp)
  have b1 : Below w.heap.size w w1 := hb.grown h3 (by simp) (fun k hk => (o0.lt k hk).1)
  have h2' : w1.ownsRow w.heap.size 3 1 v1 n (icells L) := by simpa using h2
  obtain ⟨v2, w2, q1, q2, q3⟩ := app_ints (w1.alloc (.cells #[.int .i64 (-77)] 3)) 31 w.heap.size v1 n (icells L) (h2'.alloc _) (some ⟨w1.heap.size, 0, none⟩) [-77] 1 1 rfl (fun h => by cases h) (one_at w1 (-77) 3) (by omega) (by have := b1.size; simp; omega)
  rw [← icells_app] at q2
  have b2 : Below w.heap.size w w2 := (b1.alloc b1.size _).grown q3 (by have := b1.size; simp; omega) (fun k hk => (h2'.lt k hk).1)
  rcases owns_ints q2 with ⟨r1, ⟨-, r2⟩ | ⟨g, c, rfl, r2, r3⟩⟩
  · exact absurd r2 (Nat.succ_ne_zero _)
  · exact ⟨v1, w1, g, c, w2, h1, q1, r2, own_room q2, r3, b2⟩
def LentP (w : World) (L : List Int) (n : Nat) (e : Ending) (w' : World) : Prop := ∃ g c, e = .returned (.slice (some ⟨g, 0, none⟩) n c) ∧ Row w' g (L ++ [-77]) ∧ n + 1 ≤ c ∧ w.heap.size ≤ g ∧ Below w.heap.size w w'
set_option maxHeartbeats 1000000 in
theorem lend_any (a : Option Addr) (L : List Int) (n cap : Nat) (hn : L.length = n) (ha : a = none → n = 0 ∧ cap = 0) (hz : n * 8 ≤ 140737488351232) (w : World) (hc : Hid (IntAt w a L)) :
    Calls Try.prog 21 #[.slice a n cap] w fun e w' => LentP w L n e w' := by
  obtain ⟨v1, w1, g, c, W, r1, r2, h3, h4, h5, h6⟩ := lend_runs w a L n cap hn ha hz hc.out
  have FI : Hid (Row W g (L ++ [-77]) ∧ n + 1 ≤ c ∧ w.heap.size ≤ g ∧ Below w.heap.size w W) := ⟨h3, h4, h5, h6⟩
  have q : (n : Int) ≤ (c : Int) := by omega
  obtain ⟨N, hN⟩ : ∃ N, n + 1 = N := ⟨_, rfl⟩
  rw [hN] at r2
  have HR : Hid (_ ∧ _) := ⟨r1, r2⟩
  clear r1 r2 h3 h4 h5 h6 hn ha hz hc hN
  go_enter Try.func21, Try.ntmps21
  go_wp2_with (first
    | (at_builtin; refine Go.Lib.wpList_append_run _ rfl _ _ _ _ rfl _ _ rfl rfl _ _ HR.out.1 ?_)
    | (at_builtin; refine Go.Lib.wpList_append_run _ rfl _ _ _ _ rfl _ _ rfl rfl _ _ HR.out.2 ?_))
  go_ret
  exact ⟨g, c, rfl, FI.out⟩
set_option maxHeartbeats 1000000 in
theorem same_many (a b : Option Addr) (L : List Int) (n c1 c2 : Nat) (hn : L.length = n) (hn2 : n ≤ 17592186044416) (w : World) (h1 : Hid (IntAt w a L)) (h2 : Hid (IntAt w b L)) :
    Calls Try.prog 32 #[.slice a n c1, .slice b n c2] w fun e w' => e = .returned (.bool true) ∧ Below w.heap.size w w' := by
  go_enter Try.func32, Try.ntmps32
  go_wp2
  go_loopw [5] (fun i wr => ∃ k : Nat, k ≤ n ∧ i = .int .i64 (k : Int) ∧ Hid (Below w.heap.size w wr)) (fun i _ => n - (intOf i).toNat)
  case atStart => exact ⟨0, by omega, rfl, Below.refl _ _⟩
  case round =>
    obtain ⟨k, hk, rfl, I⟩ := hrel
    by_cases hlt : k < n
    · have g1 : (k : Int) < (n : Int) := by omega
      obtain ⟨b1, o1, rfl, e1⟩ := (h1.out.later I.out) k (by omega)
      obtain ⟨b2, o2, rfl, e2⟩ := (h2.out.later I.out) k (by omega)
      obtain ⟨x, hx⟩ : ∃ x, L[k] = x := ⟨_, rfl⟩
      rw [hx] at e1 e2
      clear hx
      go_wp2
      go_quiet (fail)
      go_wp2
      go_roundw
      case rel => exact ⟨k + 1, by omega, by go_num, below_drewN I.out _⟩
      case measure => simp [intOf]; omega
    · obtain rfl : k = n := by omega
      go_wp2
      go_ret
      exact ⟨rfl, I.out⟩
theorem Row.front {w : World} {g : Nat} {L K : List Int} (h : Row w g (L ++ K)) : IntAt w (some ⟨g, 0, none⟩) L := fun i hi => by
  refine ⟨g, 0, rfl, ?_⟩
  rw [Nat.zero_add, (h i (by rw [List.length_append]; omega)).1, List.getElem_append_left hi]
theorem Row.mark {w : World} {g n : Nat} {L : List Int} (h : Row w g (L ++ [-77])) (hn : L.length = n) : w.cell? ⟨g, n, none⟩ = some (.int .i64 (-77)) := by
  subst hn
  rw [(h L.length (by simp)).1]
  simp
set_option maxHeartbeats 1000000 in
theorem kept_any (g : Nat) (a : Option Addr) (L : List Int) (n c cap : Nat) (hn : L.length = n) (hn2 : n ≤ 17592186044416) (hc : n + 1 ≤ c) (w : World) (h1 : Hid (Row w g (L ++ [-77]))) (h2 : Hid (IntAt w a L)) :
    Calls Try.prog 24 #[.slice (some ⟨g, 0, none⟩) n c, .slice a n cap] w fun e w' => e = .returned (.bool true) ∧ Below w.heap.size w w' := by
  have SM : Hid _ := same_many (some ⟨g, 0, none⟩) a L n c cap hn hn2 w h1.out.front h2
  have HM : Hid (∀ W, Below w.heap.size w W → W.cell? ⟨g, n, none⟩ = some (.int .i64 (-77))) := fun W hb => cell_later hb (h1.out.mark hn)
  obtain ⟨N, hN⟩ : ∃ N, n + 1 = N := ⟨_, rfl⟩
  have z1 : IntKind.i64.wrap ((n : Int) + 1) = (N : Int) := by rw [IntKind.wrap_i64]; omega
  have q1 : (N : Int) ≤ (c : Int) := by omega
  have q2 : (n : Int) < (N : Int) := by omega
  clear hN hn hn2 hc h1 h2
  go_enter Try.func24, Try.ntmps24
  go_wp2_with fail
  refine Calls.mono SM.out ?_
  rintro e w1 ⟨rfl, hb⟩
  have c0 := HM.out _ hb
  have FI : Hid (Below w.heap.size w w1) := hb
  clear SM HM hb
  go_wp2
  go_ret
  exact ⟨rfl, FI.out⟩
end Go.Proofs.Ytpcgoimkflgcnaa
