/- A half beside its disk; a record is added. -/
import Derived.Test.YtdcimnmebgkmjaaDoorLgK
namespace Go.Proofs.YtdcimnmebgkmjaaDoor
open Go.RowKit Go.Proofs.Fd Go.Proofs.Dk Go.Proofs.Lg
set_option maxRecDepth 20000

/-- A half beside its disk. -/
structure HD (w wr : World) (p : Nat) (F : Nat → Prop) (s : St) (q fr mn g : Nat) (v : Value) (ts : List Bs) (tk : Nat) (m : Bs) (more : List Value) : Prop where
  dl : Dl w wr p F s
  hf : Hf wr q p fr mn g v ts tk m more
  ap : ∀ x, HFt q v x → ¬ F x ∧ w.heap.size ≤ x
/-- The blocks of both. -/
def FH (F : Nat → Prop) (q : Nat) (v : Value) (x : Nat) : Prop := F x ∨ HFt q v x
section
variable {w wr : World} {p : Nat} {F : Nat → Prop} {s : St} {q fr mn g : Nat} {v : Value} {ts : List Bs} {tk : Nat} {m : Bs} {more : List Value}
theorem HD.later (h : HD w wr p F s q fr mn g v ts tk m more) {w' : World} (hb : Below wr.heap.size wr w') : HD w w' p F s q fr mn g v ts tk m more := ⟨h.dl.later hb, h.hf.later hb, h.ap⟩
theorem HD.disk (h : HD w wr p F s q fr mn g v ts tk m more) {w' : World} {F' : Nat → Prop} {s' : St} (k : Dl w w' p F' s') (hx : Nx wr F F') (hb : Bf F wr w') : HD w w' p F' s' q fr mn g v ts tk m more :=
  ⟨k, h.hf.bf hb (fun x hx => (h.ap x hx).1), fun x hh => ⟨hx.apart (h.ap x hh).1 (h.hf.lt hh), (h.ap x hh).2⟩⟩
theorem HD.half (h : HD w wr p F s q fr mn g v ts tk m more) {w' : World} {v' : Value} {ts' : List Bs} {tk' g' fr' mn' : Nat} {m' : Bs} {more' : List Value} (k : Hf w' q p fr' mn' g' v' ts' tk' m' more') (hb : Bf (HFt q v) wr w') (hx : Nx wr (HFt q v) (HFt q v')) : HD w w' p F s q fr' mn' g' v' ts' tk' m' more' :=
  ⟨⟨h.dl.at_.other hb (fun x hF hc => (h.ap x hc).1 hF), h.dl.new, h.dl.below.trans (hb.below (fun x hc => (h.ap x hc).2) h.dl.below.size)⟩, k, fun x hh => by
    rcases hx x hh with e | e
    · exact h.ap x e
    · exact ⟨fun c => Nat.not_lt.2 e (h.dl.at_.lt c), Nat.le_trans h.dl.below.size e⟩⟩
theorem HD.kh (h : HD w wr p F s q fr mn g v ts tk m more) (hk : Kh w) : Kh wr := hk.later h.dl.below
end
theorem FH.left {F F' : Nat → Prop} {q : Nat} {v : Value} {w : World} (h : Nx w F F') : Nx w (FH F q v) (FH F' q v) := fun x hx => by
  rcases hx with e | e
  · rcases h x e with e | e
    · exact .inl (.inl e)
    · exact .inr e
  · exact .inl (.inr e)
theorem FH.right {F : Nat → Prop} {q : Nat} {v v' : Value} {w : World} (h : Nx w (HFt q v) (HFt q v')) : Nx w (FH F q v) (FH F q v') := fun x hx => by
  rcases hx with e | e
  · exact .inl (.inl e)
  · rcases h x e with e | e
    · exact .inl (.inr e)
    · exact .inr e
theorem Bf.wide {F G : Nat → Prop} {w w' : World} (h : Bf F w w') (hw : ∀ x, F x → G x) : Bf G w w' := ⟨h.os, h.tape, h.output, h.size, fun x hx hG => h.block x hx (fun c => hG (hw x c))⟩
/-- What comes of both footprints. -/
def Nx2 (w : World) (F : Nat → Prop) (q : Nat) (v : Value) (F' : Nat → Prop) (v' : Value) : Prop := Nx w F F' ∧ Nx w (HFt q v) (HFt q v')
theorem Nx2.fh {w : World} {F F' : Nat → Prop} {q : Nat} {v v' : Value} (h : Nx2 w F q v F' v') : Nx w (FH F q v) (FH F' q v') := fun x hx => by
  rcases hx with e | e
  · rcases h.1 x e with e | e
    · exact .inl (.inl e)
    · exact .inr e
  · rcases h.2 x e with e | e
    · exact .inl (.inr e)
    · exact .inr e
theorem Nx2.refl (w : World) (F : Nat → Prop) (q : Nat) (v : Value) : Nx2 w F q v F v := ⟨Nx.refl _ _, Nx.refl _ _⟩
theorem Nx2.trans {w w' : World} {F F' F'' : Nat → Prop} {q : Nat} {v v' v'' : Value} (h : Nx2 w F q v F' v') (k : Nx2 w' F' q v' F'' v'') (hs : w.heap.size ≤ w'.heap.size) : Nx2 w F q v F'' v'' := ⟨h.1.trans k.1 hs, h.2.trans k.2 hs⟩
/-- What add leaves. -/
def AdP (w wr : World) (p : Nat) (F : Nat → Prop) (q fr mn g : Nat) (v : Value) (ts : List Bs) (tk : Nat) (m : Bs) (more : List Value) (t : Bs) (y : Int × St) (w' : World) : Prop :=
  ∃ F' v', Nx2 wr F q v F' v' ∧ Bf (FH F q v) wr w' ∧ (y.1 = 0 ∧ HD w w' p F' y.2 q fr mn g v' (ts ++ [t]) (tk + sn t) (rmk m t) more ∨ y.1 ≠ 0 ∧ HD w w' p F' y.2 q fr mn g v' ts tk m more)
theorem keepA {wa wb : World} {q : Nat} {x0 x1 x2 x5 : Value} {B : Nat} {y0 y1 : Value} (hb : Below wa.heap.size wa wb) (h : wa.cell? ⟨q, 0, none⟩ = some x0 ∧ wa.cell? ⟨q, 1, none⟩ = some x1 ∧ wa.cell? ⟨q, 2, none⟩ = some x2 ∧ wa.cell? ⟨q, 5, none⟩ = some x5 ∧ wa.cell? ⟨B, 0, none⟩ = some y0 ∧ wa.cell? ⟨B, 1, none⟩ = some y1) :
    wb.cell? ⟨q, 0, none⟩ = some x0 ∧ wb.cell? ⟨q, 1, none⟩ = some x1 ∧ wb.cell? ⟨q, 2, none⟩ = some x2 ∧ wb.cell? ⟨q, 5, none⟩ = some x5 ∧ wb.cell? ⟨B, 0, none⟩ = some y0 ∧ wb.cell? ⟨B, 1, none⟩ = some y1 :=
  ⟨cell_later hb h.1, cell_later hb h.2.1, cell_later hb h.2.2.1, cell_later hb h.2.2.2.1, cell_later hb h.2.2.2.2.1, cell_later hb h.2.2.2.2.2⟩
theorem keepWr {w wa wb : World} {p : Nat} {F : Nat → Prop} {s : St} {q : Nat} {x0 x1 x2 x5 : Value} {B : Nat} {y0 y1 : Value} (hq : ¬ F q) (hB : ¬ F B) (hd : Ds w wa p F s wb) (h : wa.cell? ⟨q, 0, none⟩ = some x0 ∧ wa.cell? ⟨q, 1, none⟩ = some x1 ∧ wa.cell? ⟨q, 2, none⟩ = some x2 ∧ wa.cell? ⟨q, 5, none⟩ = some x5 ∧ wa.cell? ⟨B, 0, none⟩ = some y0 ∧ wa.cell? ⟨B, 1, none⟩ = some y1) :
    wb.cell? ⟨q, 0, none⟩ = some x0 ∧ wb.cell? ⟨q, 1, none⟩ = some x1 ∧ wb.cell? ⟨q, 2, none⟩ = some x2 ∧ wb.cell? ⟨q, 5, none⟩ = some x5 ∧ wb.cell? ⟨B, 0, none⟩ = some y0 ∧ wb.cell? ⟨B, 1, none⟩ = some y1 := by
  obtain ⟨F', -, -, hb⟩ := hd
  exact ⟨hb.cell h.1 hq, hb.cell h.2.1 hq, hb.cell h.2.2.1 hq, hb.cell h.2.2.2.1 hq, hb.cell h.2.2.2.2.1 hB, hb.cell h.2.2.2.2.2 hB⟩
set_option maxHeartbeats 4000000 in
theorem ladd_any (w va : World) (p : Nat) (F : Nat → Prop) (s : St) (q fr mn g : Nat) (v : Value) (ts : List Bs) (tk : Nat) (m : Bs) (more : List Value) (t : Bs) (hm : m.length = 16) (ht : t.length ≤ 2000) (hts : ts.length ≤ 100000) (hz : fr + tk ≤ 4000) (hl : s.l.length + 100 ≤ 1000000) (hk : Hid (Kh w)) (h : Hid (HD w va p F s q fr mn g v ts tk m more)) :
    Calls Tryd.prog 35 #[.pointer (some ⟨q, 0, none⟩), sv t] va fun e w' => e = .returned (.int .i64 (wrb s (fr + tk) (rcd m t)).1) ∧ AdP w va p F q fr mn g v ts tk m more t (wrb s (fr + tk) (rcd m t)) w' := by
  have NX : Hid (∀ W, Kh W → Calls Tryd.prog 53 #[.string (st m), .string (st t)] W fun e w' => e = .returned (.agg #[.string (st (rmk m t)), .string (st t)]) ∧ Below W.heap.size W w') := fun W h => lnext_any m t hm ht W h
  have SC : Hid (∀ W, Calls Tryd.prog 54 #[.agg #[.string (st (rmk m t)), .string (st t)]] W fun e w' => e = .returned (.string (st (rcd m t))) ∧ Below W.heap.size W w') := fun W => lsectors_any (rmk m t) t rfl ht W
  have hsn : sn t ≤ 100 := by unfold sn; omega
  have WR : Hid (∀ W F, Dl w W p F s → Calls Tryd.prog 52 #[plc p fr mn, .int .i64 (tk : Int), .string (st (rcd m t))] W fun e w' => e = .returned (.int .i64 (wrb s (fr + tk) (rcd m t)).1) ∧ Ds w W p F (wrb s (fr + tk) (rcd m t)).2 w') := fun W F k => lwrite_any w W p F s fr tk mn (rcd m t) (sn t) (rcd_len m t) hsn hz (by omega) k
  have HS : Hid (∀ W F s v, HD w W p F s q fr mn g v ts tk m more → Calls Tryd.prog 55 #[.pointer (some ⟨q, 0, none⟩), .agg #[.string (st (rmk m t)), .string (st t)]] W fun e w' => e = .returned (.tuple #[]) ∧ ∃ v', HD w w' p F s q fr mn g v' (ts ++ [t]) (tk + sn t) (rmk m t) more ∧ Bf (HFt q v) W w' ∧ Nx W (HFt q v) (HFt q v')) := fun W F s v k =>
    (lhas_any q p fr mn g v ts tk m more (rmk m t) t ht hts (by omega) W k.hf).mono fun _ _ ⟨he, v', h1, h2, h3⟩ => ⟨he, v', k.half h1 h2 h3, h2, h3⟩
  obtain ⟨y, hy⟩ : ∃ y, wrb s (fr + tk) (rcd m t) = y := ⟨_, rfl⟩
  obtain ⟨x, hx⟩ : ∃ x, y.1 = x := ⟨_, rfl⟩
  rw [hy, hx] at WR ⊢
  unfold plc sv at *
  obtain ⟨T, hT⟩ : ∃ T, st t = T := ⟨_, rfl⟩
  obtain ⟨A, hA⟩ : ∃ A, st m = A := ⟨_, rfl⟩
  obtain ⟨M, hM⟩ : ∃ M, st (rmk m t) = M := ⟨_, rfl⟩
  obtain ⟨R, hR⟩ : ∃ R, st (rcd m t) = R := ⟨_, rfl⟩
  rw [hT, hM] at NX SC HS
  rw [hA] at NX
  rw [hR] at SC WR
  rw [hT]
  have k6 : va.cell? ⟨q, 6, none⟩ = some (.string A) := by rw [← hA]; exact h.out.hf.bk.c 6 _ rfl
  have HX : Hid (y.1 = x) := hx
  clear hT hA hM hR hy hx hm ht hts hl
  go_enter Tryd.func35, Tryd.ntmps35
  go_wp2_with fail
  refine Calls.mono (NX.out _ (h.out.kh hk.out)) ?_
  rintro e w1 ⟨rfl, hb⟩
  have I1 : Hid (HD w (w1.alloc (.cells #[.string M, .string T] 86)) p F s q fr mn g v ts tk m more ∧ Below va.heap.size va (w1.alloc (.cells #[.string M, .string T] 86))) := ⟨(h.out.later hb).later (nb _ _), chain hb (nb _ _)⟩
  have J1 : Hid (Blk (w1.alloc (.cells #[.string M, .string T] 86)) w1.heap.size [.string M, .string T]) := Blk.new w1 [.string M, .string T] _ (by simp)
  obtain ⟨B, hB⟩ : ∃ B, w1.heap.size = B := ⟨_, rfl⟩
  have NF : Hid (∀ x, FH F q v x → x ≠ B) := fun x hx e => by
    have hl : x < w1.heap.size := by
      rcases hx with c | c
      · exact (h.out.later hb).dl.at_.lt c
      · exact (h.out.later hb).hf.lt c
    omega
  clear hb h k6 NX
  go_wp2_with fail
  obtain ⟨V, hV⟩ : ∃ V, w1.alloc (.cells #[.string M, .string T] 86) = V := ⟨_, rfl⟩
  rw [hB] at J1
  rw [hV] at I1 J1 ⊢
  clear hB hV
  have c0 := I1.out.1.hf.bk.c 0 _ rfl
  have c1 := I1.out.1.hf.bk.c 1 _ rfl
  have c2 := I1.out.1.hf.bk.c 2 _ rfl
  have c5 := I1.out.1.hf.bk.c 5 _ rfl
  have r0 := J1.out.c 0 _ rfl
  have r1 := J1.out.c 1 _ rfl
  have NQ : Hid (¬ F q) := (I1.out.1.ap q (.inl rfl)).1
  have NB : Hid (¬ F B) := fun c => NF.out B (.inl c) rfl
  have D1 : Hid (∀ W, Below V.drew.heap.size V.drew W → HD w W p F s q fr mn g v ts tk m more ∧ Bf (FH F q v) va W ∧ Blk W B [.string M, .string T]) := fun W hb => ⟨(I1.out.1.later (Below.refl _ _).drew).later hb, Bf.of (chd I1.out.2 hb), J1.out.drew.later hb⟩
  clear I1 J1
  go_region_held3 (fun w' => w'.cell? ⟨q, 0, none⟩ = some (.pointer (some ⟨p, 0, none⟩)) ∧ w'.cell? ⟨q, 1, none⟩ = some (.int .i64 (fr : Int)) ∧ w'.cell? ⟨q, 2, none⟩ = some (.int .i64 (mn : Int)) ∧ w'.cell? ⟨q, 5, none⟩ = some (.int .i64 (tk : Int)) ∧ w'.cell? ⟨B, 0, none⟩ = some (.string M) ∧ w'.cell? ⟨B, 1, none⟩ = some (.string T)) (first | exact ⟨c0, c1, c2, c5, r0, r1⟩ | assumption | exact keepA (by assumption) (by assumption) | exact keepWr NQ.out NB.out (by assumption) (by assumption)) (first | (go_at_call 54; refine Calls.mono (SC.out _) ?_; rintro e w2 ⟨rfl, hb2⟩) | (go_at_call 52; refine Calls.mono (WR.out _ _ (D1.out _ (by assumption)).1.dl) ?_; rintro e w3 ⟨rfl, hd3⟩))
  have D2 := D1.out w2 hb2
  obtain ⟨F3, d1, d2, d3⟩ := hd3
  have I3 : Hid (HD w w3 p F3 y.2 q fr mn g v ts tk m more ∧ Bf (FH F q v) va w3 ∧ Nx2 va F q v F3 v) := ⟨D2.1.disk d1 d2 d3, D2.2.1.trans (Nx.refl _ _) (d3.wide fun _ c => .inl c), (Nx.refl va _).trans d2 D2.2.1.size, Nx.refl _ _⟩
  have J3 : Hid (Blk w3 B [.string M, .string T]) := D2.2.2.bf d3 NB.out
  clear D1 D2 d1 d2 d3 hb2 WR SC c0 c1 c2 c5 r0 r1 NQ NB 
  by_cases h0 : x = 0
  · subst h0
    have r0 := J3.out.c 0 _ rfl
    have r1 := J3.out.c 1 _ rfl
    have H4 : Hid _ := HS.out w3 F3 y.2 v I3.out.1
    clear HS J3
    go_wp2_with fail
    refine Calls.mono H4.out ?_
    rintro e w4 ⟨rfl, v4, h1, h2, h3⟩
    have FF : Hid (AdP w va p F q fr mn g v ts tk m more t y w4) := ⟨F3, v4, I3.out.2.2.trans ⟨Nx.refl _ _, h3⟩ I3.out.2.1.size, I3.out.2.1.trans I3.out.2.2.fh (h2.wide fun _ c => .inr c), .inl ⟨HX.out, h1⟩⟩
    clear h1 h2 h3 I3 H4 r0 r1
    go_wp2
    go_ret
    exact ⟨rfl, FF.out⟩
  · have FF : Hid (AdP w va p F q fr mn g v ts tk m more t y w3) := ⟨F3, v, I3.out.2.2, I3.out.2.1, .inr ⟨by rw [HX.out]; exact h0, I3.out.1⟩⟩
    clear I3 J3 HS
    go_wp2
    go_ret
    exact ⟨rfl, FF.out⟩
end Go.Proofs.YtdcimnmebgkmjaaDoor
