/- The half that lies at a place. -/
import Derived.Test.YtdcimnmebgkmjaaDoorLgC
namespace Go.Proofs.YtdcimnmebgkmjaaDoor
open Go.RowKit Go.Proofs.Fd Go.Proofs.Dk Go.Proofs.Lg
set_option maxRecDepth 20000

/-- A half as a value; no half. -/
abbrev hv (p fr mn g : Nat) (v : Value) (tk : Nat) (m : Bs) : Value := .agg (hc p fr mn g v tk m []).toArray
abbrev hz0 : List Value := [.pointer none, .int .i64 0, .int .i64 0, .int .i64 0, .slice none 0 0, .int .i64 0, .string ⟨#[]⟩]
/-- What is found at a place: texts, sectors taken, mark. -/
def fT (s : St) (fr mn : Nat) : List Bs := if gen (hb s fr mn) = 0 then [] else recs s fr mn (gen (hb s fr mn))
def fK (s : St) (fr mn : Nat) : Nat := if gen (hb s fr mn) = 0 then 0 else tkn 1 (fT s fr mn)
def fM (s : St) (fr mn : Nat) : Bs := if gen (hb s fr mn) = 0 then [] else mks (hm (gen (hb s fr mn))) (fT s fr mn)
theorem lfind_down (w va : World) (p : Nat) (F : Nat → Prop) (s : St) (fr mn : Nat) (h1 : 1 ≤ mn) (h2 : fr + mn ≤ s.n) (hd : s.down = true) (h : Hid (Dl w va p F s)) :
    Calls Tryd.prog 46 #[plc p fr mn] va fun e w' => e = .returned (.tuple #[.agg hz0.toArray, .int .i64 150]) ∧ Below va.heap.size va w' := by
  have e2 : rdA s fr mn = .tuple #[.string ⟨#[]⟩, .int .i64 150] := if_pos hd
  have RD : Hid (∀ W, Below va.heap.size va W → Calls Tryd.prog 50 #[.agg #[.pointer (some ⟨p, 0, none⟩), .int .i64 (fr : Int), .int .i64 (mn : Int)]] W fun e w' => e = .returned (.tuple #[.string ⟨#[]⟩, .int .i64 150]) ∧ Below W.heap.size W w') := fun W hb => by
    have := lread_any w W p F s fr mn h1 h2 (h.out.later hb)
    rw [e2] at this
    exact this
  have I0 : Hid (Blk ((va.alloc (.cells #[.pointer (some ⟨p, 0, none⟩), .int .i64 (fr : Int), .int .i64 (mn : Int)] 55)).alloc (.cells hz0.toArray 57)) (va.heap.size + 1) hz0 ∧ Below va.heap.size va ((va.alloc (.cells #[.pointer (some ⟨p, 0, none⟩), .int .i64 (fr : Int), .int .i64 (mn : Int)] 55)).alloc (.cells hz0.toArray 57))) := ⟨blk_two va _ hz0 _ (by simp), chain (nb _ _) (nb _ _)⟩
  clear e2 h hd h1 h2
  unfold plc
  go_enter Tryd.func46, Tryd.ntmps46
  go_wp2_with fail
  refine Calls.mono (RD.out _ I0.out.2) ?_
  rintro e w1 ⟨rfl, hb⟩
  have I1 : Hid (_ ∧ _) := And.intro (I0.out.1.later hb) (chain I0.out.2 hb)
  clear hb I0 RD
  have k0 := I1.out.1.c 0 _ rfl
  have k1 := I1.out.1.c 1 _ rfl
  have k2 := I1.out.1.c 2 _ rfl
  have k3 := I1.out.1.c 3 _ rfl
  have k4 := I1.out.1.c 4 _ rfl
  have k5 := I1.out.1.c 5 _ rfl
  have k6 := I1.out.1.c 6 _ rfl
  have kf := I1.out.1.f
  have FI : Hid (_ ∧ _) := And.intro (I1.out.1.put hz0 rfl) (below_sets (Nat.le_succ _) hz0 0 I1.out.2)
  clear I1
  go_wp2
  refine bodyPost_ret (v := .tuple #[.agg hz0.toArray, .int .i64 150]) ?_ rfl ⟨rfl, FI.out.2⟩
  exact res_c2 Tryd.results46 _ _ (va.heap.size + 1) _ _ (by kernel_rfl) (by kernel_rfl) (run_loadVar_mid _ (va.heap.size + 1) 0 57 hz0 _ FI.out.1.r Tryd.underlying57 rfl (by kernel_rfl))
end Go.Proofs.YtdcimnmebgkmjaaDoor
