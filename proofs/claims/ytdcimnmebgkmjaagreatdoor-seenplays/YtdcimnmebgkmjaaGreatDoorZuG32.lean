/- Parts: SyH,SyI. -/
import Derived.Test.YtdcimnmebgkmjaaGreatDoorZuG31
namespace Go.Proofs.YtdcimnmebgkmjaaGreatDoor
open Go.RowKit Go.Proofs.Fd Go.Proofs.Dk Go.Proofs.Lg
set_option maxRecDepth 20000
def F4 (B A p d:Nat) (X P:Value) (w':World):Prop:=w'.cell? ⟨B,1,none⟩=some (.pointer (some ⟨p,0,none⟩))∧w'.cell? ⟨B,2,none⟩=some (.pointer (some ⟨d,0,none⟩))∧w'.cell? ⟨A,2,none⟩=some X∧w'.cell? ⟨A,3,none⟩=some P
theorem F4.later {B A p d:Nat} {X P:Value} {w w':World} (h:F4 B A p d X P w) (hb:Below w.heap.size w w'):F4 B A p d X P w':=⟨cell_later hb h.1,cell_later hb h.2.1,cell_later hb h.2.2.1,cell_later hb h.2.2.2⟩
theorem F4.drew {B A p d:Nat} {X P:Value} {w:World} (h:F4 B A p d X P w):F4 B A p d X P w.drew:=h.later (Below.refl _ _).drew
theorem Sx2.f4 {w w0:World} {U0:Nat→Prop} {wr:World} {B A:Nat} {most:Int} {p d:Nat} {sP sR:St} {ps pk:Option Addr} {X P:Value} (h:Sx2 w w0 U0 wr B most p d sP sR ps pk) (hU:¬U0 A) (h2:w0.cell? ⟨A,2,none⟩=some X) (h3:w0.cell? ⟨A,3,none⟩=some P):F4 B A p d X P wr:=by
 obtain⟨F,G,k,nn,ff⟩:=h
 exact⟨k.bk.c 1 _ rfl,k.bk.c 2 _ rfl,ff.cell h2 hU,ff.cell h3 hU⟩
def opf7_0:Oper:={ dst:=some 49,op:=Go.Op.move (Go.Operand.tmp 5),type := 32, pos := "law.go:51", after:=#[],guard:=none }
def opf7_1:Oper:={ dst:=some 50,op:=Go.Op.binOp Go.BinOp.neq 32 (Go.Operand.tmp 49) (Go.Operand.const (Go.Value.pointer none)) 32, type := 4, pos := "law.go:51", after:=#[{ on:=0,ground:=Go.Ground.data }],guard:=none }
def opf7_2:Oper:={ dst:=some 51,op:=Go.Op.move (Go.Operand.tmp 50),type := 4, pos := "law.go:51", after:=#[{ on:=1,ground:=Go.Ground.data }],guard:=none }
def opf7_3:Oper:={ dst:=some 52,op:=Go.Op.move (Go.Operand.tmp 7),type := 33, pos := "law.go:51", after:=#[{ on:=2,ground:=Go.Ground.guard }],guard:=some (2,true) }
def opf7_4:Oper:={ dst:=some 53,op:=Go.Op.binOp Go.BinOp.neq 33 (Go.Operand.tmp 52) (Go.Operand.const (Go.Value.pointer none)) 33, type := 4, pos := "law.go:51", after:=#[{ on:=3,ground:=Go.Ground.data },{ on:=2,ground:=Go.Ground.guard }],guard:=some (2,true) }
def opf7_5:Oper:={ dst:=some 54,op:=Go.Op.pick (Go.Operand.tmp 51) (Go.Operand.tmp 53) (Go.Operand.const (Go.Value.bool false)),type := 4, pos := "law.go:51", after:=#[{ on:=2,ground:=Go.Ground.data },{ on:=4,ground:=Go.Ground.data }],guard:=none }
def opf7_6:Oper:={ dst:=some 55,op:=Go.Op.move (Go.Operand.tmp 54),type := 4, pos := "law.go:51", after:=#[{ on:=5,ground:=Go.Ground.data },{ on:=2,ground:=Go.Ground.chain }],guard:=none }
def opf7_7:Oper:={ dst:=some 56,op:=Go.Op.move (Go.Operand.tmp 5),type := 32, pos := "law.go:51", after:=#[{ on:=6,ground:=Go.Ground.guard }],guard:=some (6,true) }
def opf7_8:Oper:={ dst:=some 57,op:=Go.Op.fieldAddr 50 (Go.Operand.tmp 3) 2,type:=0,pos := "law.go:51", after:=#[{ on:=6,ground:=Go.Ground.guard }],guard:=some (6,true) }
def opf7_9:Oper:={ dst:=some 58,op:=Go.Op.load 9 (Go.Operand.tmp 57),type := 9, pos := "law.go:51", after:=#[{ on:=8,ground:=Go.Ground.data },{ on:=6,ground:=Go.Ground.guard }],guard:=some (6,true) }
def opf7_10:Oper:={ dst:=some 59,op:=Go.Op.call { callee:=Go.Callee.value (Go.Operand.func 21),args:=#[Go.Operand.tmp 56,Go.Operand.tmp 58],argTypes:=#[32, 9] },type := 24, pos := "law.go:51", after:=#[{ on:=7,ground:=Go.Ground.data },{ on:=9,ground:=Go.Ground.data },{ on:=6,ground:=Go.Ground.chain },{ on:=6,ground:=Go.Ground.guard }],guard:=some (6,true) }
def opf7_11:Oper:={ dst:=some 60,op:=Go.Op.move (Go.Operand.tmp 7),type := 33, pos := "law.go:51", after:=#[{ on:=6,ground:=Go.Ground.guard }],guard:=some (6,true) }
def opf7_12:Oper:={ dst:=some 61,op:=Go.Op.fieldAddr 50 (Go.Operand.tmp 3) 2,type:=0,pos := "law.go:51", after:=#[{ on:=6,ground:=Go.Ground.guard }],guard:=some (6,true) }
def opf7_13:Oper:={ dst:=some 62,op:=Go.Op.load 9 (Go.Operand.tmp 61),type := 9, pos := "law.go:51", after:=#[{ on:=12,ground:=Go.Ground.data },{ on:=6,ground:=Go.Ground.guard }],guard:=some (6,true) }
def opf7_14:Oper:={ dst:=some 63,op:=Go.Op.call { callee:=Go.Callee.value (Go.Operand.func 36),args:=#[Go.Operand.tmp 60,Go.Operand.tmp 62],argTypes:=#[33, 9] },type := 24, pos := "law.go:51", after:=#[{ on:=11,ground:=Go.Ground.data },{ on:=13,ground:=Go.Ground.data },{ on:=10,ground:=Go.Ground.chain },{ on:=6,ground:=Go.Ground.guard }],guard:=some (6,true) }
def opf7_15:Oper:={ dst:=some 64,op:=Go.Op.binOp Go.BinOp.neq 24 (Go.Operand.tmp 59) (Go.Operand.tmp 63) 24, type := 4, pos := "law.go:51", after:=#[{ on:=10,ground:=Go.Ground.data },{ on:=14,ground:=Go.Ground.data },{ on:=6,ground:=Go.Ground.guard }],guard:=some (6,true) }
def opf7_16:Oper:={ dst:=some 65,op:=Go.Op.move (Go.Operand.tmp 64),type := 4, pos := "law.go:51", after:=#[{ on:=15,ground:=Go.Ground.data },{ on:=14,ground:=Go.Ground.chain },{ on:=6,ground:=Go.Ground.guard }],guard:=some (6,true) }
def opf7_17:Oper:={ dst:=some 66,op:=Go.Op.move (Go.Operand.tmp 5),type := 32, pos := "law.go:51", after:=#[{ on:=16,ground:=Go.Ground.guard }],guard:=some (16,false) }
def opf7_18:Oper:={ dst:=some 67,op:=Go.Op.call { callee:=Go.Callee.value (Go.Operand.func 22),args:=#[Go.Operand.tmp 66],argTypes:=#[32] },type := 24, pos := "law.go:51", after:=#[{ on:=17,ground:=Go.Ground.data },{ on:=16,ground:=Go.Ground.chain },{ on:=16,ground:=Go.Ground.guard }],guard:=some (16,false) }
def opf7_19:Oper:={ dst:=some 68,op:=Go.Op.move (Go.Operand.tmp 0),type := 43, pos := "law.go:51", after:=#[{ on:=16,ground:=Go.Ground.guard }],guard:=some (16,false) }
def opf7_20:Oper:={ dst:=some 69,op:=Go.Op.nilCheck (Go.Operand.tmp 68),type:=0,pos := "law.go:51", after:=#[{ on:=19,ground:=Go.Ground.data },{ on:=16,ground:=Go.Ground.guard }],guard:=some (16,false) }
def opf7_21:Oper:={ dst:=some 70,op:=Go.Op.fieldAddr 47 (Go.Operand.tmp 69) 2,type:=0,pos := "law.go:51", after:=#[{ on:=20,ground:=Go.Ground.data },{ on:=16,ground:=Go.Ground.guard }],guard:=some (16,false) }
def opf7_22:Oper:={ dst:=some 71,op:=Go.Op.load 27 (Go.Operand.tmp 70),type := 27, pos := "law.go:51", after:=#[{ on:=21,ground:=Go.Ground.data },{ on:=16,ground:=Go.Ground.guard }],guard:=some (16,false) }
def opf7_23:Oper:={ dst:=some 72,op:=Go.Op.call { callee:=Go.Callee.value (Go.Operand.func 37),args:=#[Go.Operand.tmp 71],argTypes:=#[27] },type := 24, pos := "law.go:51", after:=#[{ on:=22,ground:=Go.Ground.data },{ on:=18,ground:=Go.Ground.chain },{ on:=16,ground:=Go.Ground.guard }],guard:=some (16,false) }
def opf7_24:Oper:={ dst:=some 73,op:=Go.Op.binOp Go.BinOp.neq 24 (Go.Operand.tmp 67) (Go.Operand.tmp 72) 24, type := 4, pos := "law.go:51", after:=#[{ on:=18,ground:=Go.Ground.data },{ on:=23,ground:=Go.Ground.data },{ on:=16,ground:=Go.Ground.guard }],guard:=some (16,false) }
def opf7_25:Oper:={ dst:=some 74,op:=Go.Op.pick (Go.Operand.tmp 65) (Go.Operand.const (Go.Value.bool true)) (Go.Operand.tmp 73),type := 4, pos := "law.go:51", after:=#[{ on:=16,ground:=Go.Ground.data },{ on:=24,ground:=Go.Ground.data },{ on:=6,ground:=Go.Ground.guard }],guard:=some (6,true) }
def opf7_26:Oper:={ dst:=some 75,op:=Go.Op.pick (Go.Operand.tmp 55) (Go.Operand.tmp 74) (Go.Operand.const (Go.Value.bool false)),type := 4, pos := "law.go:51", after:=#[{ on:=6,ground:=Go.Ground.data },{ on:=25,ground:=Go.Ground.data }],guard:=none }
set_option maxHeartbeats 4000000 in
theorem foreign_core (B A p d:Nat) (ak an:Int) (X:ByteArray) (pa:Option Addr) (pn pc:Nat) (z ya ys:Int) (PO:World→Prop)
  (Q0 Q1 Q2:World→Prop) (Q3:Option Addr→World→Prop) (Q4 Q5 Q6 Q7 Q8:Option Addr→Option Addr→World→Prop) (wr:World) (hA:wr.heap.size=A)
  (D0:Hid (∀W,Q0 W→Q0 W.drew)) (D1:Hid (∀W,Q1 W→Q1 W.drew)) (D4:Hid (∀a b W,Q4 a b W→Q4 a b W.drew))
  (K0:Hid (Q0 (wr.alloc (.cells #[.int .i64 ak,.int .i64 an,.string X,.slice pa pn pc] 50))∧F4 B A p d (.string X) (.slice pa pn pc) (wr.alloc (.cells #[.int .i64 ak,.int .i64 an,.string X,.slice pa pn pc] 50))))
  (C1:Hid (∀W,Q0 W→Calls Tryz.prog 23 #[.pointer (some ⟨p,0,none⟩),.slice pa pn pc] W fun e w1=>e = .returned (.int .i64 0)∧F4 B A p d (.string X) (.slice pa pn pc) w1∧Hid (Q1 w1)))
  (C2:Hid (∀W,Q1 W→Calls Tryz.prog 46 #[.pointer (some ⟨d,0,none⟩),.slice pa pn pc] W fun e w1=>e = .returned (.int .i64 0)∧F4 B A p d (.string X) (.slice pa pn pc) w1∧Hid (Q2 w1)))
  (O1:Hid (∀W,Q2 W→Calls Tryz.prog 20 #[.pointer (some ⟨p,0,none⟩)] W fun e w1=>∃pl,e = .returned (.tuple #[.pointer pl,.int .i64 z])∧F4 B A p d (.string X) (.slice pa pn pc) w1∧Hid (Q3 pl w1∧(z=0↔pl≠none))))
  (O2:Hid (∀W pl,Q3 pl W→Calls Tryz.prog 26 #[.pointer (some ⟨d,0,none⟩)] W fun e w1=>∃kl,e = .returned (.tuple #[.pointer kl,.int .i64 z])∧F4 B A p d (.string X) (.slice pa pn pc) w1∧Hid (Q4 pl kl w1∧(z=0↔kl≠none))))
  (A1:Hid (∀W a b,z=0→Q4 (some a) (some b) W→Calls Tryz.prog 21 #[.pointer (some a),.string X] W fun e w1=>e = .returned (.int .i64 ya)∧F4 B A p d (.string X) (.slice pa pn pc) w1∧Hid (Q5 (some a) (some b) w1)))
  (A2:Hid (∀W a b,z=0→Q5 (some a) (some b) W→Calls Tryz.prog 36 #[.pointer (some b),.string X] W fun e w1=>e = .returned (.int .i64 ya)∧F4 B A p d (.string X) (.slice pa pn pc) w1∧Hid (Q6 (some a) (some b) w1)))
  (S1:Hid (∀W a b,z=0→Q6 (some a) (some b) W→Calls Tryz.prog 22 #[.pointer (some a)] W fun e w1=>e = .returned (.int .i64 ys)∧F4 B A p d (.string X) (.slice pa pn pc) w1∧Hid (Q7 (some a) (some b) w1)))
  (S2:Hid (∀W a b,z=0→Q7 (some a) (some b) W→Calls Tryz.prog 37 #[.pointer (some ⟨d,0,none⟩)] W fun e w1=>e = .returned (.int .i64 ys)∧F4 B A p d (.string X) (.slice pa pn pc) w1∧Hid (Q8 (some a) (some b) w1)))
  (P1:Hid (∀W a b,z=0→Q8 (some a) (some b) W→Calls Tryz.prog 12 #[.pointer (some ⟨B,0,none⟩)] W fun e w1=>e = .returned (.bool true)∧PO w1))
  (P2:Hid (∀W,z≠0→Q4 none none W→Calls Tryz.prog 12 #[.pointer (some ⟨B,0,none⟩)] W fun e w1=>e = .returned (.bool true)∧PO w1)) :
  Calls Tryz.prog 47 #[.pointer (some ⟨B,0,none⟩),.agg #[.int .i64 ak,.int .i64 an,.string X,.slice pa pn pc]] wr fun e w'=>e = .returned (.bool true)∧PO w':=by
 obtain⟨W1,hW1⟩:∃W,wr.alloc (.cells #[.int .i64 ak,.int .i64 an,.string X,.slice pa pn pc] 50)=W:=⟨_,rfl⟩
 rw[hW1] at K0
 have K0d:Hid (Q0 W1.drew):=D0.out _ K0.out.1
 have f0:F4 B A p d (.string X) (.slice pa pn pc) W1.drew:=K0.out.2.drew
 clear K0 D0
 go_enter Tryz.func47, Tryz.ntmps47
 go_upto_region 1 with fail
 clear hA hW1
 go_region_held3 (fun w'=>w'.cell? ⟨B,1,none⟩=some (.pointer (some ⟨p,0,none⟩))∧w'.cell? ⟨B,2,none⟩=some (.pointer (some ⟨d,0,none⟩))∧w'.cell? ⟨A,2,none⟩=some (.string X)∧w'.cell? ⟨A,3,none⟩=some (.slice pa pn pc)) (first|exact f0|assumption) (first|(go_at_call 23;refine Calls.mono (C1.out _ K0d.out) ?_;rintro e w2 ⟨rfl,f2,K2⟩))
 have K2d:Hid (Q1 w2.drew):=D1.out _ K2.out
 have f2d:=f2.drew
 clear C1 K0d f0 K2 f2 D1
 go_wp2_with fail
 go_region_held3 (fun w'=>w'.cell? ⟨B,1,none⟩=some (.pointer (some ⟨p,0,none⟩))∧w'.cell? ⟨B,2,none⟩=some (.pointer (some ⟨d,0,none⟩))∧w'.cell? ⟨A,2,none⟩=some (.string X)∧w'.cell? ⟨A,3,none⟩=some (.slice pa pn pc)) (first|exact f2d|assumption) (first|(go_at_call 46;refine Calls.mono (C2.out _ K2d.out) ?_;rintro e w3 ⟨rfl,f3,K3⟩))
 clear C2 K2d f2d
 obtain⟨b1,b2,a2,a3⟩:=f3
 go_wp2_with fail
 refine Calls.mono (O1.out _ K3.out) ?_
 rintro e w4 ⟨pl,rfl,f4,K4⟩
 clear O1 K3 b1 b2 a2 a3
 obtain⟨b1,b2,a2,a3⟩:=f4
 go_wp2_with fail
 refine Calls.mono (O2.out _ _ K4.out.1) ?_
 rintro e w5 ⟨kl,rfl,f5,K5⟩
 have I1:Hid (z=0↔pl≠none):=K4.out.2
 clear O2 K4 b1 b2 a2 a3
 have f5d:=f5.drew
 by_cases hz:z=0
 ·obtain⟨c1,rfl⟩:∃a,pl=some a:=by
   cases pl with
   | none=>exact absurd rfl (I1.out.1 hz)
   | some a=>exact⟨a,rfl⟩
  obtain⟨c2,rfl⟩:∃a,kl=some a:=by
   cases kl with
   | none=>exact absurd rfl (K5.out.2.1 hz)
   | some a=>exact⟨a,rfl⟩
  have K5d:Hid (Q4 (some c1) (some c2) w5.drew):=D4.out _ _ _ K5.out.1
  have A1':Hid _:=fun W=>A1.out W c1 c2 hz
  have A2':Hid _:=fun W=>A2.out W c1 c2 hz
  have S1':Hid _:=fun W=>S1.out W c1 c2 hz
  have S2':Hid _:=fun W=>S2.out W c1 c2 hz
  have P1':Hid _:=fun W=>P1.out W c1 c2 hz
  subst hz
  clear I1 K5 A1 A2 S1 S2 P1 P2 D4 f5
  go_wp2_with fail
  go_region_held3 (fun w'=>w'.cell? ⟨B,1,none⟩=some (.pointer (some ⟨p,0,none⟩))∧w'.cell? ⟨B,2,none⟩=some (.pointer (some ⟨d,0,none⟩))∧w'.cell? ⟨A,2,none⟩=some (.string X)∧w'.cell? ⟨A,3,none⟩=some (.slice pa pn pc)) (first|exact f5d|assumption) (first|(go_at_call 21;refine Calls.mono (A1'.out _ K5d.out) ?_;rintro e w6 ⟨rfl,f6,K6⟩)|(go_at_call 36;refine Calls.mono (A2'.out _ K6.out) ?_;rintro e w7 ⟨rfl,f7,K7⟩)|(go_at_call 22;refine Calls.mono (S1'.out _ K7.out) ?_;rintro e w8 ⟨rfl,f8,K8⟩)|(go_at_call 37;refine Calls.mono (S2'.out _ K8.out) ?_;rintro e w9 ⟨rfl,f9,K9⟩))
  have P9:Hid _:=P1'.out _ K9.out
  clear A1' A2' S1' S2' P1' K5d K6 K7 K8 K9 f5d f6 f7 f8 f9
  go_wp2_with fail
  refine Calls.mono P9.out ?_
  rintro e w10 ⟨rfl,h10⟩
  have FF:Hid _:=h10
  clear h10 P9
  go_wp2
  go_ret
  exact⟨rfl,FF.out⟩
 ·obtain rfl:pl=none:=by
   cases pl with
   | none=>rfl
   | some a=>exact absurd (I1.out.2 (by simp)) hz
  obtain rfl:kl=none:=by
   cases kl with
   | none=>rfl
   | some a=>exact absurd (K5.out.2.2 (by simp)) hz
  have P9:Hid _:=P2.out _ hz (D4.out _ _ _ K5.out.1)
  clear I1 K5 A1 A2 S1 S2 P1 P2 D4 f5 hz
  go_wp2_with fail
  refine wp_region_noPanic ?_
  refine wp_region_held_drew (S:=fun _=>True) (by kernel_rfl) (trivial) (fun hHeld => ?_)
  refine wpAnyH_take (i:=0) (oi:=opf7_0) (v := ?_) rfl (by kernel_rfl) (by kernel_rfl) (by kernel_rfl) (fun _ _ _ h=>h) (Or.inl ⟨by rfl,?_⟩) (by assumption) ?_
  rotate_left
  ·intro w' hSw
   clear hSw
   unfold opf7_0
   first
   | (go_simp;done)
   | (go_simp;with_reducible rfl)
  simp only[opf7_0,Act.put,List.setIfInBounds_toArray,List.set_cons_zero,List.set_cons_succ]
  refine wpAnyH_take (i:=1) (oi:=opf7_1) (v := ?_) rfl (by kernel_rfl) (by kernel_rfl) (by kernel_rfl) (fun _ _ _ h=>h) (Or.inl ⟨by rfl,?_⟩) (by assumption) ?_
  rotate_left
  ·intro w' hSw
   clear hSw
   unfold opf7_1
   first
   | (go_simp;done)
   | (go_simp;with_reducible rfl)
  simp only[opf7_1,Act.put,List.setIfInBounds_toArray,List.set_cons_zero,List.set_cons_succ]
  refine wpAnyH_take (i:=2) (oi:=opf7_2) (v := ?_) rfl (by kernel_rfl) (by kernel_rfl) (by kernel_rfl) (fun _ _ _ h=>h) (Or.inl ⟨by rfl,?_⟩) (by assumption) ?_
  rotate_left
  ·intro w' hSw
   clear hSw
   unfold opf7_2
   first
   | (go_simp;done)
   | (go_simp;with_reducible rfl)
  simp only[opf7_2,Act.put,List.setIfInBounds_toArray,List.set_cons_zero,List.set_cons_succ]
  refine wpAnyH_take (i:=3) (oi:=opf7_3) (v:=undef) rfl (by kernel_rfl) (by kernel_rfl) (by kernel_rfl) (fun _ _ _ h=>h) (Or.inr ⟨by rfl,rfl⟩) (by assumption) ?_
  simp only[opf7_3,Act.put,List.setIfInBounds_toArray,List.set_cons_zero,List.set_cons_succ]
  refine wpAnyH_take (i:=4) (oi:=opf7_4) (v:=undef) rfl (by kernel_rfl) (by kernel_rfl) (by kernel_rfl) (fun _ _ _ h=>h) (Or.inr ⟨by rfl,rfl⟩) (by assumption) ?_
  simp only[opf7_4,Act.put,List.setIfInBounds_toArray,List.set_cons_zero,List.set_cons_succ]
  refine wpAnyH_take (i:=5) (oi:=opf7_5) (v := ?_) rfl (by kernel_rfl) (by kernel_rfl) (by kernel_rfl) (fun _ _ _ h=>h) (Or.inl ⟨by rfl,?_⟩) (by assumption) ?_
  rotate_left
  ·intro w' hSw
   clear hSw
   unfold opf7_5
   first
   | (go_simp;done)
   | (go_simp;with_reducible rfl)
  simp only[opf7_5,Act.put,List.setIfInBounds_toArray,List.set_cons_zero,List.set_cons_succ]
  refine wpAnyH_take (i:=6) (oi:=opf7_6) (v := ?_) rfl (by kernel_rfl) (by kernel_rfl) (by kernel_rfl) (fun _ _ _ h=>h) (Or.inl ⟨by rfl,?_⟩) (by assumption) ?_
  rotate_left
  ·intro w' hSw
   clear hSw
   unfold opf7_6
   first
   | (go_simp;done)
   | (go_simp;with_reducible rfl)
  simp only[opf7_6,Act.put,List.setIfInBounds_toArray,List.set_cons_zero,List.set_cons_succ]
  refine wpAnyH_take (i:=7) (oi:=opf7_7) (v:=undef) rfl (by kernel_rfl) (by kernel_rfl) (by kernel_rfl) (fun _ _ _ h=>h) (Or.inr ⟨by rfl,rfl⟩) (by assumption) ?_
  simp only[opf7_7,Act.put,List.setIfInBounds_toArray,List.set_cons_zero,List.set_cons_succ]
  refine wpAnyH_take (i:=8) (oi:=opf7_8) (v:=undef) rfl (by kernel_rfl) (by kernel_rfl) (by kernel_rfl) (fun _ _ _ h=>h) (Or.inr ⟨by rfl,rfl⟩) (by assumption) ?_
  simp only[opf7_8,Act.put,List.setIfInBounds_toArray,List.set_cons_zero,List.set_cons_succ]
  refine wpAnyH_take (i:=9) (oi:=opf7_9) (v:=undef) rfl (by kernel_rfl) (by kernel_rfl) (by kernel_rfl) (fun _ _ _ h=>h) (Or.inr ⟨by rfl,rfl⟩) (by assumption) ?_
  simp only[opf7_9,Act.put,List.setIfInBounds_toArray,List.set_cons_zero,List.set_cons_succ]
  refine wpAnyH_take (i:=10) (oi:=opf7_10) (v:=undef) rfl (by kernel_rfl) (by kernel_rfl) (by kernel_rfl) (fun _ _ _ h=>h) (Or.inr ⟨by rfl,rfl⟩) (by assumption) ?_
  simp only[opf7_10,Act.put,List.setIfInBounds_toArray,List.set_cons_zero,List.set_cons_succ]
  refine wpAnyH_take (i:=11) (oi:=opf7_11) (v:=undef) rfl (by kernel_rfl) (by kernel_rfl) (by kernel_rfl) (fun _ _ _ h=>h) (Or.inr ⟨by rfl,rfl⟩) (by assumption) ?_
  simp only[opf7_11,Act.put,List.setIfInBounds_toArray,List.set_cons_zero,List.set_cons_succ]
  refine wpAnyH_take (i:=12) (oi:=opf7_12) (v:=undef) rfl (by kernel_rfl) (by kernel_rfl) (by kernel_rfl) (fun _ _ _ h=>h) (Or.inr ⟨by rfl,rfl⟩) (by assumption) ?_
  simp only[opf7_12,Act.put,List.setIfInBounds_toArray,List.set_cons_zero,List.set_cons_succ]
  refine wpAnyH_take (i:=13) (oi:=opf7_13) (v:=undef) rfl (by kernel_rfl) (by kernel_rfl) (by kernel_rfl) (fun _ _ _ h=>h) (Or.inr ⟨by rfl,rfl⟩) (by assumption) ?_
  simp only[opf7_13,Act.put,List.setIfInBounds_toArray,List.set_cons_zero,List.set_cons_succ]
  refine wpAnyH_take (i:=14) (oi:=opf7_14) (v:=undef) rfl (by kernel_rfl) (by kernel_rfl) (by kernel_rfl) (fun _ _ _ h=>h) (Or.inr ⟨by rfl,rfl⟩) (by assumption) ?_
  simp only[opf7_14,Act.put,List.setIfInBounds_toArray,List.set_cons_zero,List.set_cons_succ]
  refine wpAnyH_take (i:=15) (oi:=opf7_15) (v:=undef) rfl (by kernel_rfl) (by kernel_rfl) (by kernel_rfl) (fun _ _ _ h=>h) (Or.inr ⟨by rfl,rfl⟩) (by assumption) ?_
  simp only[opf7_15,Act.put,List.setIfInBounds_toArray,List.set_cons_zero,List.set_cons_succ]
  refine wpAnyH_take (i:=16) (oi:=opf7_16) (v:=undef) rfl (by kernel_rfl) (by kernel_rfl) (by kernel_rfl) (fun _ _ _ h=>h) (Or.inr ⟨by rfl,rfl⟩) (by assumption) ?_
  simp only[opf7_16,Act.put,List.setIfInBounds_toArray,List.set_cons_zero,List.set_cons_succ]
  refine wpAnyH_take (i:=17) (oi:=opf7_17) (v:=undef) rfl (by kernel_rfl) (by kernel_rfl) (by kernel_rfl) (fun _ _ _ h=>h) (Or.inr ⟨by rfl,rfl⟩) (by assumption) ?_
  simp only[opf7_17,Act.put,List.setIfInBounds_toArray,List.set_cons_zero,List.set_cons_succ]
  refine wpAnyH_take (i:=18) (oi:=opf7_18) (v:=undef) rfl (by kernel_rfl) (by kernel_rfl) (by kernel_rfl) (fun _ _ _ h=>h) (Or.inr ⟨by rfl,rfl⟩) (by assumption) ?_
  simp only[opf7_18,Act.put,List.setIfInBounds_toArray,List.set_cons_zero,List.set_cons_succ]
  refine wpAnyH_take (i:=19) (oi:=opf7_19) (v:=undef) rfl (by kernel_rfl) (by kernel_rfl) (by kernel_rfl) (fun _ _ _ h=>h) (Or.inr ⟨by rfl,rfl⟩) (by assumption) ?_
  simp only[opf7_19,Act.put,List.setIfInBounds_toArray,List.set_cons_zero,List.set_cons_succ]
  refine wpAnyH_take (i:=20) (oi:=opf7_20) (v:=undef) rfl (by kernel_rfl) (by kernel_rfl) (by kernel_rfl) (fun _ _ _ h=>h) (Or.inr ⟨by rfl,rfl⟩) (by assumption) ?_
  simp only[opf7_20,Act.put,List.setIfInBounds_toArray,List.set_cons_zero,List.set_cons_succ]
  refine wpAnyH_take (i:=21) (oi:=opf7_21) (v:=undef) rfl (by kernel_rfl) (by kernel_rfl) (by kernel_rfl) (fun _ _ _ h=>h) (Or.inr ⟨by rfl,rfl⟩) (by assumption) ?_
  simp only[opf7_21,Act.put,List.setIfInBounds_toArray,List.set_cons_zero,List.set_cons_succ]
  refine wpAnyH_take (i:=22) (oi:=opf7_22) (v:=undef) rfl (by kernel_rfl) (by kernel_rfl) (by kernel_rfl) (fun _ _ _ h=>h) (Or.inr ⟨by rfl,rfl⟩) (by assumption) ?_
  simp only[opf7_22,Act.put,List.setIfInBounds_toArray,List.set_cons_zero,List.set_cons_succ]
  refine wpAnyH_take (i:=23) (oi:=opf7_23) (v:=undef) rfl (by kernel_rfl) (by kernel_rfl) (by kernel_rfl) (fun _ _ _ h=>h) (Or.inr ⟨by rfl,rfl⟩) (by assumption) ?_
  simp only[opf7_23,Act.put,List.setIfInBounds_toArray,List.set_cons_zero,List.set_cons_succ]
  refine wpAnyH_take (i:=24) (oi:=opf7_24) (v:=undef) rfl (by kernel_rfl) (by kernel_rfl) (by kernel_rfl) (fun _ _ _ h=>h) (Or.inr ⟨by rfl,rfl⟩) (by assumption) ?_
  simp only[opf7_24,Act.put,List.setIfInBounds_toArray,List.set_cons_zero,List.set_cons_succ]
  refine wpAnyH_take (i:=25) (oi:=opf7_25) (v:=undef) rfl (by kernel_rfl) (by kernel_rfl) (by kernel_rfl) (fun _ _ _ h=>h) (Or.inr ⟨by rfl,rfl⟩) (by assumption) ?_
  simp only[opf7_25,Act.put,List.setIfInBounds_toArray,List.set_cons_zero,List.set_cons_succ]
  refine wpAnyH_take (i:=26) (oi:=opf7_26) (v := ?_) rfl (by kernel_rfl) (by kernel_rfl) (by kernel_rfl) (fun _ _ _ h=>h) (Or.inl ⟨by rfl,?_⟩) (by assumption) ?_
  rotate_left
  ·intro w' hSw
   clear hSw
   unfold opf7_26
   first
   | (go_simp;done)
   | (go_simp;with_reducible rfl)
  simp only[opf7_26,Act.put,List.setIfInBounds_toArray,List.set_cons_zero,List.set_cons_succ]
  refine wpAnyH_done (by kernel_rfl) ?_ _
  refine NoPanic.normal ?_
  go_wp2_with fail
  refine Calls.mono P9.out ?_
  rintro e w10 ⟨rfl,h10⟩
  have FF:Hid _:=h10
  clear h10 P9
  go_wp2
  go_ret
  exact⟨rfl,FF.out⟩
end Go.Proofs.YtdcimnmebgkmjaaGreatDoor
namespace Go.Proofs.YtdcimnmebgkmjaaGreatDoor
open Go.RowKit Go.Proofs.Fd Go.Proofs.Dk Go.Proofs.Lg
set_option maxRecDepth 20000
def F8 (B A p d:Nat) (ps pk:Option Addr) (ak an:Int) (X P:Value) (w':World):Prop :=
 w'.cell? ⟨B,1,none⟩=some (.pointer (some ⟨p,0,none⟩))∧w'.cell? ⟨B,2,none⟩=some (.pointer (some ⟨d,0,none⟩))∧w'.cell? ⟨B,3,none⟩=some (.pointer ps)∧w'.cell? ⟨B,4,none⟩=some (.pointer pk)
 ∧ w'.cell? ⟨A,0,none⟩=some (.int .i64 ak)∧w'.cell? ⟨A,1,none⟩=some (.int .i64 an)∧w'.cell? ⟨A,2,none⟩=some X∧w'.cell? ⟨A,3,none⟩=some P
theorem F8.later {B A p d:Nat} {ps pk:Option Addr} {ak an:Int} {X P:Value} {w w':World} (h:F8 B A p d ps pk ak an X P w) (hb:Below w.heap.size w w'):F8 B A p d ps pk ak an X P w':=⟨cell_later hb h.1,cell_later hb h.2.1,cell_later hb h.2.2.1,cell_later hb h.2.2.2.1,cell_later hb h.2.2.2.2.1,cell_later hb h.2.2.2.2.2.1,cell_later hb h.2.2.2.2.2.2.1,cell_later hb h.2.2.2.2.2.2.2⟩
theorem F8.drew {B A p d:Nat} {ps pk:Option Addr} {ak an:Int} {X P:Value} {w:World} (h:F8 B A p d ps pk ak an X P w):F8 B A p d ps pk ak an X P w.drew:=h.later (Below.refl _ _).drew
section
variable (B A p d:Nat) (ps pk:Option Addr) (ak an:Int) (X:ByteArray) (pa:Option Addr) (pn pc:Nat) (PO:World→Prop) (Q0 Q1 Q2:World→Prop) (wr:World)
set_option maxHeartbeats 2000000 in
theorem step_fuse (hA:wr.heap.size=A) (e1:Int)
  (AM:Hid (∀w,Calls Tryz.prog 45 #[.int .i64 ak,.int .i64 6] w fun e w'=>e = .returned (.int .i64 3)∧w'=w))
  (D0:Hid (∀W,Q0 W→Q0 W.drew))
  (K0:Hid (Q0 (wr.alloc (.cells #[.int .i64 ak,.int .i64 an,.string X,.slice pa pn pc] 50))∧F8 B A p d ps pk ak an (.string X) (.slice pa pn pc) (wr.alloc (.cells #[.int .i64 ak,.int .i64 an,.string X,.slice pa pn pc] 50))))
  (C1:Hid (∀W,Q0 W→Calls Tryz.prog 31 #[.pointer (some ⟨p,0,none⟩),.int .i64 an] W fun e w1=>e = .returned (.int .i64 e1)∧F8 B A p d ps pk ak an (.string X) (.slice pa pn pc) w1∧Hid (Q1 w1)))
  (C2:Hid (∀W,Q1 W→Calls Tryz.prog 32 #[.pointer (some ⟨d,0,none⟩),.int .i64 an] W fun e w1=>e = .returned (.int .i64 e1)∧F8 B A p d ps pk ak an (.string X) (.slice pa pn pc) w1∧Hid (PO w1))) :
  Calls Tryz.prog 13 #[.pointer (some ⟨B,0,none⟩),.agg #[.int .i64 ak,.int .i64 an,.string X,.slice pa pn pc]] wr fun e w'=>e = .returned (.bool true)∧PO w':=by
 obtain⟨W1,hW1⟩:∃W,wr.alloc (.cells #[.int .i64 ak,.int .i64 an,.string X,.slice pa pn pc] 50)=W:=⟨_,rfl⟩
 rw[hW1] at K0
 have K0d:Hid (Q0 W1.drew):=D0.out _ K0.out.1
 have f0:F8 B A p d ps pk ak an (.string X) (.slice pa pn pc) W1.drew:=K0.out.2.drew
 have a0:=K0.out.2.2.2.2.2.1
 clear K0 D0
 go_enter Tryz.func13, Tryz.ntmps13
 go_wp2_with fail
 refine Calls.mono (AM.out _) ?_
 rintro e w1 ⟨rfl,rfl⟩
 clear hA hW1 AM
 go_wp2_with fail
 go_region_held3 (fun w'=>w'.cell? ⟨B,1,none⟩=some (.pointer (some ⟨p,0,none⟩))∧w'.cell? ⟨B,2,none⟩=some (.pointer (some ⟨d,0,none⟩))∧w'.cell? ⟨B,3,none⟩=some (.pointer ps)∧w'.cell? ⟨B,4,none⟩=some (.pointer pk)∧w'.cell? ⟨A,0,none⟩=some (.int .i64 ak)∧w'.cell? ⟨A,1,none⟩=some (.int .i64 an)∧w'.cell? ⟨A,2,none⟩=some (.string X)∧w'.cell? ⟨A,3,none⟩=some (.slice pa pn pc)) (first|exact f0|assumption) (first|(go_at_call 31;refine Calls.mono (C1.out _ K0d.out) ?_;rintro e w2 ⟨rfl,f2,K2⟩)|(go_at_call 32;refine Calls.mono (C2.out _ K2.out) ?_;rintro e w3 ⟨rfl,f3,K3⟩))
 clear C1 C2 K0d K2 f0 f2 f3 a0
 go_wp2
 go_ret
 exact⟨rfl,K3.out⟩
set_option maxHeartbeats 2000000 in
theorem step_crash (hA:wr.heap.size=A)
  (AM:Hid (∀w,Calls Tryz.prog 45 #[.int .i64 ak,.int .i64 6] w fun e w'=>e = .returned (.int .i64 4)∧w'=w))
  (D0:Hid (∀W,Q0 W→Q0 W.drew)) (D1:Hid (∀W,Q1 W→Q1 W.drew))
  (K0:Hid (Q0 (wr.alloc (.cells #[.int .i64 ak,.int .i64 an,.string X,.slice pa pn pc] 50))∧F8 B A p d ps pk ak an (.string X) (.slice pa pn pc) (wr.alloc (.cells #[.int .i64 ak,.int .i64 an,.string X,.slice pa pn pc] 50))))
  (C1:Hid (∀W,Q0 W→Calls Tryz.prog 23 #[.pointer (some ⟨p,0,none⟩),.slice pa pn pc] W fun e w1=>e = .returned (.int .i64 0)∧F8 B A p d ps pk ak an (.string X) (.slice pa pn pc) w1∧Hid (Q1 w1)))
  (C2:Hid (∀W,Q1 W→Calls Tryz.prog 46 #[.pointer (some ⟨d,0,none⟩),.slice pa pn pc] W fun e w1=>e = .returned (.int .i64 0)∧F8 B A p d ps pk ak an (.string X) (.slice pa pn pc) w1∧Hid (Q2 w1)))
  (P1:Hid (∀W,Q2 W→Calls Tryz.prog 12 #[.pointer (some ⟨B,0,none⟩)] W fun e w1=>e = .returned (.bool true)∧PO w1)) :
  Calls Tryz.prog 13 #[.pointer (some ⟨B,0,none⟩),.agg #[.int .i64 ak,.int .i64 an,.string X,.slice pa pn pc]] wr fun e w'=>e = .returned (.bool true)∧PO w':=by
 obtain⟨W1,hW1⟩:∃W,wr.alloc (.cells #[.int .i64 ak,.int .i64 an,.string X,.slice pa pn pc] 50)=W:=⟨_,rfl⟩
 rw[hW1] at K0
 have K0d:Hid (Q0 W1.drew):=D0.out _ K0.out.1
 have f0:F8 B A p d ps pk ak an (.string X) (.slice pa pn pc) W1.drew:=K0.out.2.drew
 have a0:=K0.out.2.2.2.2.2.1
 clear K0 D0
 go_enter Tryz.func13, Tryz.ntmps13
 go_wp2_with fail
 refine Calls.mono (AM.out _) ?_
 rintro e w1 ⟨rfl,rfl⟩
 clear hA hW1 AM
 go_wp2_with fail
 go_region_held3 (fun w'=>w'.cell? ⟨B,1,none⟩=some (.pointer (some ⟨p,0,none⟩))∧w'.cell? ⟨B,2,none⟩=some (.pointer (some ⟨d,0,none⟩))∧w'.cell? ⟨B,3,none⟩=some (.pointer ps)∧w'.cell? ⟨B,4,none⟩=some (.pointer pk)∧w'.cell? ⟨A,0,none⟩=some (.int .i64 ak)∧w'.cell? ⟨A,1,none⟩=some (.int .i64 an)∧w'.cell? ⟨A,2,none⟩=some (.string X)∧w'.cell? ⟨A,3,none⟩=some (.slice pa pn pc)) (first|exact f0|assumption) (first|(go_at_call 23;refine Calls.mono (C1.out _ K0d.out) ?_;rintro e w2 ⟨rfl,f2,K2⟩))
 have K2d:Hid (Q1 w2.drew):=D1.out _ K2.out
 have f2d:=f2.drew
 clear C1 K0d f0 K2 f2 D1 a0
 go_wp2_with fail
 go_region_held3 (fun w'=>w'.cell? ⟨B,1,none⟩=some (.pointer (some ⟨p,0,none⟩))∧w'.cell? ⟨B,2,none⟩=some (.pointer (some ⟨d,0,none⟩))∧w'.cell? ⟨B,3,none⟩=some (.pointer ps)∧w'.cell? ⟨B,4,none⟩=some (.pointer pk)∧w'.cell? ⟨A,0,none⟩=some (.int .i64 ak)∧w'.cell? ⟨A,1,none⟩=some (.int .i64 an)∧w'.cell? ⟨A,2,none⟩=some (.string X)∧w'.cell? ⟨A,3,none⟩=some (.slice pa pn pc)) (first|exact f2d|assumption) (first|(go_at_call 46;refine Calls.mono (C2.out _ K2d.out) ?_;rintro e w3 ⟨rfl,f3,K3⟩))
 have P3:Hid _:=P1.out _ K3.out
 clear C2 K2d f2d K3 f3 P1
 go_wp2_with fail
 refine Calls.mono P3.out ?_
 rintro e w10 ⟨rfl,h10⟩
 have FF:Hid _:=h10
 clear h10 P3
 go_wp2
 go_ret
 exact⟨rfl,FF.out⟩
set_option maxHeartbeats 2000000 in
theorem step_foreign (hA:wr.heap.size=A)
  (AM:Hid (∀w,Calls Tryz.prog 45 #[.int .i64 ak,.int .i64 6] w fun e w'=>e = .returned (.int .i64 5)∧w'=w))
  (K0:Hid (Q0 (wr.alloc (.cells #[.int .i64 ak,.int .i64 an,.string X,.slice pa pn pc] 50))∧F8 B A p d ps pk ak an (.string X) (.slice pa pn pc) (wr.alloc (.cells #[.int .i64 ak,.int .i64 an,.string X,.slice pa pn pc] 50))))
  (C1:Hid (∀W,Q0 W→Calls Tryz.prog 47 #[.pointer (some ⟨B,0,none⟩),.agg #[.int .i64 ak,.int .i64 an,.string X,.slice pa pn pc]] W fun e w1=>e = .returned (.bool true)∧PO w1)) :
  Calls Tryz.prog 13 #[.pointer (some ⟨B,0,none⟩),.agg #[.int .i64 ak,.int .i64 an,.string X,.slice pa pn pc]] wr fun e w'=>e = .returned (.bool true)∧PO w':=by
 obtain⟨W1,hW1⟩:∃W,wr.alloc (.cells #[.int .i64 ak,.int .i64 an,.string X,.slice pa pn pc] 50)=W:=⟨_,rfl⟩
 rw[hW1] at K0
 have P3:Hid _:=C1.out _ K0.out.1
 obtain⟨-,-,-,-,a0,a1,a2,a3⟩:=K0.out.2
 clear K0 C1
 go_enter Tryz.func13, Tryz.ntmps13
 go_wp2_with fail
 refine Calls.mono (AM.out _) ?_
 rintro e w1 ⟨rfl,rfl⟩
 clear hA hW1 AM
 go_wp2_with fail
 refine Calls.mono P3.out ?_
 rintro e w10 ⟨rfl,h10⟩
 have FF:Hid _:=h10
 clear h10 P3
 go_wp2
 go_ret
 exact⟨rfl,FF.out⟩
set_option maxHeartbeats 2000000 in
theorem step_idle (hA:wr.heap.size=A) (m:Nat) (hm:m < 3) (dn:Bool) (hps:ps=none↔pk=none) (hdn:ps=none∨dn=true)
  (AM:Hid (∀w,Calls Tryz.prog 45 #[.int .i64 ak,.int .i64 6] w fun e w'=>e = .returned (.int .i64 (m:Int))∧w'=w))
  (K0:Hid ((wr.alloc (.cells #[.int .i64 ak,.int .i64 an,.string X,.slice pa pn pc] 50)).cell? ⟨d,3,none⟩=some (.bool dn)∧PO (wr.alloc (.cells #[.int .i64 ak,.int .i64 an,.string X,.slice pa pn pc] 50))∧F8 B A p d ps pk ak an (.string X) (.slice pa pn pc) (wr.alloc (.cells #[.int .i64 ak,.int .i64 an,.string X,.slice pa pn pc] 50)))) :
  Calls Tryz.prog 13 #[.pointer (some ⟨B,0,none⟩),.agg #[.int .i64 ak,.int .i64 an,.string X,.slice pa pn pc]] wr fun e w'=>e = .returned (.bool true)∧PO w':=by
 obtain⟨W1,hW1⟩:∃W,wr.alloc (.cells #[.int .i64 ak,.int .i64 an,.string X,.slice pa pn pc] 50)=W:=⟨_,rfl⟩
 rw[hW1] at K0
 have FF:Hid (PO W1):=K0.out.2.1
 have d3:=K0.out.1
 obtain⟨-,b2,b3,b4,a0,-,-,-⟩:=K0.out.2.2
 clear K0
 have g3:¬(m:Int)=3:=by omega
 have g4:¬(m:Int)=4:=by omega
 have g5:¬(m:Int)=5:=by omega
 obtain⟨y,hy⟩:∃y:Int,(m:Int)=y:=⟨_,rfl⟩
 rw[hy] at AM g3 g4 g5
 clear hm hy
 cases ps with
 | none =>
  obtain rfl:pk=none:=hps.1 rfl
  clear hps hdn
  go_enter Tryz.func13, Tryz.ntmps13
  go_wp2_with fail
  refine Calls.mono (AM.out _) ?_
  rintro e w1 ⟨rfl,rfl⟩
  clear hA hW1 AM
  go_wp2
  go_ret
  exact⟨rfl,FF.out⟩
 | some q1 =>
  obtain rfl:dn=true:=by
   rcases hdn with c|c
   ·cases c
   ·exact c
  cases pk with
  | none=>exact absurd (hps.2 rfl) (by simp)
  | some q2 =>
   clear hps hdn
   go_enter Tryz.func13, Tryz.ntmps13
   go_wp2_with fail
   refine Calls.mono (AM.out _) ?_
   rintro e w1 ⟨rfl,rfl⟩
   clear hA hW1 AM
   go_wp2
   go_ret
   exact⟨rfl,FF.out⟩
end
section
variable (B A p d:Nat) (q1 q2:Addr) (ak an:Int) (X:ByteArray) (pa:Option Addr) (pn pc:Nat) (PO:World→Prop) (Q0 Q1:World→Prop) (wr:World)
set_option maxHeartbeats 2000000 in
theorem step_add (hA:wr.heap.size=A) (e1:Int)
  (AM:Hid (∀w,Calls Tryz.prog 45 #[.int .i64 ak,.int .i64 6] w fun e w'=>e = .returned (.int .i64 0)∧w'=w))
  (D0:Hid (∀W,Q0 W→Q0 W.drew))
  (K0:Hid ((wr.alloc (.cells #[.int .i64 ak,.int .i64 an,.string X,.slice pa pn pc] 50)).cell? ⟨d,3,none⟩=some (.bool false)∧Q0 (wr.alloc (.cells #[.int .i64 ak,.int .i64 an,.string X,.slice pa pn pc] 50))∧F8 B A p d (some q1) (some q2) ak an (.string X) (.slice pa pn pc) (wr.alloc (.cells #[.int .i64 ak,.int .i64 an,.string X,.slice pa pn pc] 50))))
  (C1:Hid (∀W,Q0 W→Calls Tryz.prog 41 #[.pointer (some q1),.string X] W fun e w1=>e = .returned (.int .i64 e1)∧F8 B A p d (some q1) (some q2) ak an (.string X) (.slice pa pn pc) w1∧Hid (Q1 w1)))
  (C2:Hid (∀W,Q1 W→Calls Tryz.prog 48 #[.pointer (some q2),.string X] W fun e w1=>e = .returned (.int .i64 e1)∧F8 B A p d (some q1) (some q2) ak an (.string X) (.slice pa pn pc) w1∧Hid (PO w1))) :
  Calls Tryz.prog 13 #[.pointer (some ⟨B,0,none⟩),.agg #[.int .i64 ak,.int .i64 an,.string X,.slice pa pn pc]] wr fun e w'=>e = .returned (.bool true)∧PO w':=by
 obtain⟨W1,hW1⟩:∃W,wr.alloc (.cells #[.int .i64 ak,.int .i64 an,.string X,.slice pa pn pc] 50)=W:=⟨_,rfl⟩
 rw[hW1] at K0
 have K0d:Hid (Q0 W1.drew):=D0.out _ K0.out.2.1
 have f0:F8 B A p d (some q1) (some q2) ak an (.string X) (.slice pa pn pc) W1.drew:=K0.out.2.2.drew
 have d3:=K0.out.1
 obtain⟨-,b2,b3,b4,a0,-,-,-⟩:=K0.out.2.2
 clear K0 D0
 go_enter Tryz.func13, Tryz.ntmps13
 go_wp2_with fail
 refine Calls.mono (AM.out _) ?_
 rintro e w1 ⟨rfl,rfl⟩
 clear hA hW1
 go_wp2_with fail
 refine Calls.mono (AM.out _) ?_
 rintro e w1 ⟨rfl,rfl⟩
 clear AM
 go_wp2_with fail
 go_region_held3 (fun w'=>w'.cell? ⟨B,1,none⟩=some (.pointer (some ⟨p,0,none⟩))∧w'.cell? ⟨B,2,none⟩=some (.pointer (some ⟨d,0,none⟩))∧w'.cell? ⟨B,3,none⟩=some (.pointer (some q1))∧w'.cell? ⟨B,4,none⟩=some (.pointer (some q2))∧w'.cell? ⟨A,0,none⟩=some (.int .i64 ak)∧w'.cell? ⟨A,1,none⟩=some (.int .i64 an)∧w'.cell? ⟨A,2,none⟩=some (.string X)∧w'.cell? ⟨A,3,none⟩=some (.slice pa pn pc)) (first|exact f0|assumption) (first|(go_at_call 41;refine Calls.mono (C1.out _ K0d.out) ?_;rintro e w2 ⟨rfl,f2,K2⟩)|(go_at_call 48;refine Calls.mono (C2.out _ K2.out) ?_;rintro e w3 ⟨rfl,f3,K3⟩))
 clear C1 C2 K0d K2 f0 f2 f3 a0 b2 b3 b4 d3
 go_wp2
 go_ret
 exact⟨rfl,K3.out⟩
set_option maxHeartbeats 2000000 in
theorem step_rot (hA:wr.heap.size=A) (e1:Int)
  (AM:Hid (∀w,Calls Tryz.prog 45 #[.int .i64 ak,.int .i64 6] w fun e w'=>e = .returned (.int .i64 1)∧w'=w))
  (D0:Hid (∀W,Q0 W→Q0 W.drew))
  (K0:Hid ((wr.alloc (.cells #[.int .i64 ak,.int .i64 an,.string X,.slice pa pn pc] 50)).cell? ⟨d,3,none⟩=some (.bool false)∧Q0 (wr.alloc (.cells #[.int .i64 ak,.int .i64 an,.string X,.slice pa pn pc] 50))∧F8 B A p d (some q1) (some q2) ak an (.string X) (.slice pa pn pc) (wr.alloc (.cells #[.int .i64 ak,.int .i64 an,.string X,.slice pa pn pc] 50))))
  (C1:Hid (∀W,Q0 W→Calls Tryz.prog 42 #[.pointer (some q1)] W fun e w1=>e = .returned (.int .i64 e1)∧F8 B A p d (some q1) (some q2) ak an (.string X) (.slice pa pn pc) w1∧Hid (Q1 w1)))
  (C2:Hid (∀W,Q1 W→Calls Tryz.prog 49 #[.pointer (some q2)] W fun e w1=>e = .returned (.int .i64 e1)∧F8 B A p d (some q1) (some q2) ak an (.string X) (.slice pa pn pc) w1∧Hid (PO w1))) :
  Calls Tryz.prog 13 #[.pointer (some ⟨B,0,none⟩),.agg #[.int .i64 ak,.int .i64 an,.string X,.slice pa pn pc]] wr fun e w'=>e = .returned (.bool true)∧PO w':=by
 obtain⟨W1,hW1⟩:∃W,wr.alloc (.cells #[.int .i64 ak,.int .i64 an,.string X,.slice pa pn pc] 50)=W:=⟨_,rfl⟩
 rw[hW1] at K0
 have K0d:Hid (Q0 W1.drew):=D0.out _ K0.out.2.1
 have f0:F8 B A p d (some q1) (some q2) ak an (.string X) (.slice pa pn pc) W1.drew:=K0.out.2.2.drew
 have d3:=K0.out.1
 obtain⟨-,b2,b3,b4,a0,-,-,-⟩:=K0.out.2.2
 clear K0 D0
 go_enter Tryz.func13, Tryz.ntmps13
 go_wp2_with fail
 refine Calls.mono (AM.out _) ?_
 rintro e w1 ⟨rfl,rfl⟩
 clear hA hW1
 go_wp2_with fail
 refine Calls.mono (AM.out _) ?_
 rintro e w1 ⟨rfl,rfl⟩
 clear AM
 go_wp2_with fail
 go_region_held3 (fun w'=>w'.cell? ⟨B,1,none⟩=some (.pointer (some ⟨p,0,none⟩))∧w'.cell? ⟨B,2,none⟩=some (.pointer (some ⟨d,0,none⟩))∧w'.cell? ⟨B,3,none⟩=some (.pointer (some q1))∧w'.cell? ⟨B,4,none⟩=some (.pointer (some q2))∧w'.cell? ⟨A,0,none⟩=some (.int .i64 ak)∧w'.cell? ⟨A,1,none⟩=some (.int .i64 an)∧w'.cell? ⟨A,2,none⟩=some (.string X)∧w'.cell? ⟨A,3,none⟩=some (.slice pa pn pc)) (first|exact f0|assumption) (first|(go_at_call 42;refine Calls.mono (C1.out _ K0d.out) ?_;rintro e w2 ⟨rfl,f2,K2⟩)|(go_at_call 49;refine Calls.mono (C2.out _ K2.out) ?_;rintro e w3 ⟨rfl,f3,K3⟩))
 clear C1 C2 K0d K2 f0 f2 f3 a0 b2 b3 b4 d3
 go_wp2
 go_ret
 exact⟨rfl,K3.out⟩
set_option maxHeartbeats 2000000 in
theorem step_has (hA:wr.heap.size=A) (e1:Bool)
  (AM:Hid (∀w,Calls Tryz.prog 45 #[.int .i64 ak,.int .i64 6] w fun e w'=>e = .returned (.int .i64 2)∧w'=w))
  (D0:Hid (∀W,Q0 W→Q0 W.drew))
  (K0:Hid ((wr.alloc (.cells #[.int .i64 ak,.int .i64 an,.string X,.slice pa pn pc] 50)).cell? ⟨d,3,none⟩=some (.bool false)∧Q0 (wr.alloc (.cells #[.int .i64 ak,.int .i64 an,.string X,.slice pa pn pc] 50))∧F8 B A p d (some q1) (some q2) ak an (.string X) (.slice pa pn pc) (wr.alloc (.cells #[.int .i64 ak,.int .i64 an,.string X,.slice pa pn pc] 50))))
  (C1:Hid (∀W,Q0 W→Calls Tryz.prog 43 #[.pointer (some q1),.string X] W fun e w1=>e = .returned (.bool e1)∧F8 B A p d (some q1) (some q2) ak an (.string X) (.slice pa pn pc) w1∧Hid (Q1 w1)))
  (C2:Hid (∀W,Q1 W→Calls Tryz.prog 50 #[.pointer (some q2),.string X] W fun e w1=>e = .returned (.bool e1)∧F8 B A p d (some q1) (some q2) ak an (.string X) (.slice pa pn pc) w1∧Hid (PO w1))) :
  Calls Tryz.prog 13 #[.pointer (some ⟨B,0,none⟩),.agg #[.int .i64 ak,.int .i64 an,.string X,.slice pa pn pc]] wr fun e w'=>e = .returned (.bool true)∧PO w':=by
 obtain⟨W1,hW1⟩:∃W,wr.alloc (.cells #[.int .i64 ak,.int .i64 an,.string X,.slice pa pn pc] 50)=W:=⟨_,rfl⟩
 rw[hW1] at K0
 have K0d:Hid (Q0 W1.drew):=D0.out _ K0.out.2.1
 have f0:F8 B A p d (some q1) (some q2) ak an (.string X) (.slice pa pn pc) W1.drew:=K0.out.2.2.drew
 have d3:=K0.out.1
 obtain⟨-,b2,b3,b4,a0,-,-,-⟩:=K0.out.2.2
 clear K0 D0
 go_enter Tryz.func13, Tryz.ntmps13
 go_wp2_with fail
 refine Calls.mono (AM.out _) ?_
 rintro e w1 ⟨rfl,rfl⟩
 clear hA hW1
 go_wp2_with fail
 refine Calls.mono (AM.out _) ?_
 rintro e w1 ⟨rfl,rfl⟩
 clear AM
 go_wp2_with fail
 go_region_held3 (fun w'=>w'.cell? ⟨B,1,none⟩=some (.pointer (some ⟨p,0,none⟩))∧w'.cell? ⟨B,2,none⟩=some (.pointer (some ⟨d,0,none⟩))∧w'.cell? ⟨B,3,none⟩=some (.pointer (some q1))∧w'.cell? ⟨B,4,none⟩=some (.pointer (some q2))∧w'.cell? ⟨A,0,none⟩=some (.int .i64 ak)∧w'.cell? ⟨A,1,none⟩=some (.int .i64 an)∧w'.cell? ⟨A,2,none⟩=some (.string X)∧w'.cell? ⟨A,3,none⟩=some (.slice pa pn pc)) (first|exact f0|assumption) (first|(go_at_call 43;refine Calls.mono (C1.out _ K0d.out) ?_;rintro e w2 ⟨rfl,f2,K2⟩)|(go_at_call 50;refine Calls.mono (C2.out _ K2.out) ?_;rintro e w3 ⟨rfl,f3,K3⟩))
 clear C1 C2 K0d K2 f0 f2 f3 a0 b2 b3 b4 d3
 cases e1
 ·go_wp2
  go_ret
  exact⟨rfl,K3.out⟩
 ·go_wp2
  go_ret
  exact⟨rfl,K3.out⟩
end
end Go.Proofs.YtdcimnmebgkmjaaGreatDoor
