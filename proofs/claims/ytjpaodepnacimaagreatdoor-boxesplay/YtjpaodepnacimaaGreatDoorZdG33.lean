/- Parts: YsE,YsF,YsG. -/
import Derived.Test.YtjpaodepnacimaaGreatDoorZdG32
import Derived.Test.YtjpaodepnacimaaGreatDoorZdG31
import Derived.Deep.CutBlock
namespace Go.Proofs.YtjpaodepnacimaaGreatDoor
open Go.RowKit Go.Proofs.Fd Go.Proofs.Dk Go.Proofs.Lg Go.Proofs.Bx
set_option maxRecDepth 20000
section
variable (w w0:World) (U0:Nat→Prop) (wr:World) (B:Nat) (most:Int) (p d:Nat) (sP:St) (sR:St) (x:Lo) (E:List En) (oP oR:Oe) (pv pk:Option Addr)
theorem bputPY_any (hk:Hid (Kh w)) (u:Int) (X T:ByteArray) (gb:Gx (ofE E)) (hm:manyX (ofE E) 64≤30000) (hl:sP.l.length+60000≤1000000) (h:BxY w w0 U0 wr B most p d sP (some (x,E)) sR oR pv pk) :
  Calls Tryz.prog 21 #[.pointer pv,.int .i64 u,.string X,.string T] wr fun e w1=>e = .returned (.int .i64 (puEn most.toNat sP x E u X.data.toList T.data.toList).1.1.1)∧BxY w w0 U0 w1 B most p d (puEn most.toNat sP x E u X.data.toList T.data.toList).1.1.2 (some ((puEn most.toNat sP x E u X.data.toList T.data.toList).1.2,(puEn most.toNat sP x E u X.data.toList T.data.toList).2)) sR oR pv pk:=by
 obtain⟨q,b,Ft,rfl,hp,back⟩:=h.pz
 obtain⟨F,v,vs,z,n1,f1⟩:=hp
 obtain⟨r1,r2⟩:=puEn_of most.toNat sP x E u X.data.toList T.data.toList
 refine (xputB_any w p q b most.toNat sP x (ofE E) F v vs u X T gb hm hl hk wr z).mono ?_
 rw[←r1,←r2]
 exact fun _ w1 ⟨e1,e2⟩=>⟨e1,back (e2.trans n1 f1)⟩
theorem bputRY_any (u:Int) (X T:ByteArray) (hE:E.length≤30000) (gE:Gx (ofE E)) (uE:Bx.Us E) (hdn:sR.down=false) (hl:sR.l.length+60000≤1000000) (h:BxY w w0 U0 wr B most p d sP oP sR (some (x,E)) pv pk) :
  Calls Tryz.prog 26 #[.pointer pk,.int .i64 u,.string X,.string T] wr fun e w1=>e = .returned (.int .i64 (puEn most.toNat sR x E u X.data.toList T.data.toList).1.1.1)∧BxY w w0 U0 w1 B most p d sP oP (puEn most.toNat sR x E u X.data.toList T.data.toList).1.1.2 (some ((puEn most.toNat sR x E u X.data.toList T.data.toList).1.2,(puEn most.toNat sR x E u X.data.toList T.data.toList).2)) pv pk:=by
 obtain⟨q,b,Gt,rfl,hp,back⟩:=h.rz
 obtain⟨G,v,vu,z,n1,f1⟩:=hp
 exact (ybPut_any wr d G sR q v x b most.toNat vu E u X T hE gE uE hdn hl z).mono fun _ w1 ⟨e1,e2⟩=>⟨e1,back (e2.trans n1 f1)⟩
theorem backPY_any (hk:Hid (Kh w)) (u:Int) (a:Option Addr) (n c:Nat) (m:List Bs) (hn:m.length=n) (hnb:n≤10000000000000) (hg:x.g < 2147483647) (gb:Gx (ofE E)) (hm:manyX (ofE E) 64≤30000) (hl:sP.l.length+60000≤1000000) (tx:Hid (TxAt wr a m)) (h:BxY w w0 U0 wr B most p d sP (some (x,E)) sR oR pv pk) :
  Calls Tryz.prog 23 #[.pointer pv,.int .i64 u,.slice a n c] wr fun e w1=>e = .returned (.tuple #[.int .i64 ((akEn sP x E u m).1:Int),.int .i64 (akEn sP x E u m).2.1.1.1])∧BxY w w0 U0 w1 B most p d (akEn sP x E u m).2.1.1.2 (some ((akEn sP x E u m).2.1.2,(akEn sP x E u m).2.2)) sR oR pv pk:=by
 obtain⟨q,b,Ft,rfl,hp,back⟩:=h.pz
 obtain⟨F,v,vs,z,n1,f1⟩:=hp
 obtain⟨r1,r2,r3⟩:=akEn_of sP x E u m
 refine (xackB_any w p q b most.toNat sP x (ofE E) F v vs u a n c m hn hnb hg gb hm hl hk wr tx z).mono ?_
 rw[←r1,←r2,←r3]
 exact fun _ w1 ⟨e1,e2⟩=>⟨e1,back (e2.trans n1 f1)⟩
theorem backRY_any (u:Int) (a:Option Addr) (n c:Nat) (m:List Bs) (hn:m.length=n) (hnb:n≤10000000000000) (hE:E.length≤30000) (gE:Gx (ofE E)) (uE:Bx.Us E) (hdn:sR.down=false) (hl:sR.l.length+60000≤1000000) (tx:Hid (TxAt wr a m)) (h:BxY w w0 U0 wr B most p d sP oP sR (some (x,E)) pv pk) :
  Calls Tryz.prog 30 #[.pointer pk,.int .i64 u,.slice a n c] wr fun e w1=>e = .returned (.tuple #[.int .i64 ((akEn sR x E u m).1:Int),.int .i64 (akEn sR x E u m).2.1.1.1])∧BxY w w0 U0 w1 B most p d sP oP (akEn sR x E u m).2.1.1.2 (some ((akEn sR x E u m).2.1.2,(akEn sR x E u m).2.2)) pv pk:=by
 obtain⟨q,b,Gt,rfl,hp,back⟩:=h.rz
 obtain⟨G,v,vu,z,n1,f1⟩:=hp
 exact (ybAck_any wr d G sR q v x b most.toNat vu E u a n c m hn hnb hE gE uE hdn hl z tx).mono fun _ w1 ⟨e1,e2⟩=>⟨e1,back (e2.trans n1 f1)⟩
theorem bfirstPY_any (u z:Int) (gb:Gx (ofE E)) (hm:manyX (ofE E) 64≤30000) (h:BxY w w0 U0 wr B most p d sP (some (x,E)) sR oR pv pk) :
  Calls Tryz.prog 22 #[.pointer pv,.int .i64 u,.int .i64 z] wr fun e w1=>∃y,e = .returned (.tuple #[y,.int .i64 (fiX (ofE E) u z).1])∧w1.ownsRow wr.heap.size 58 2 y (fiX (ofE E) u z).2.length (scx (fiX (ofE E) u z).2)∧Below wr.heap.size wr w1:=by
 obtain⟨q,b,Ft,rfl,hp,-⟩:=h.pz
 obtain⟨F,v,vs,k,n1,f1⟩:=hp
 exact xfirst_any w p q b most.toNat sP x (ofE E) F v vs u z gb hm wr k
theorem bfirstRY_any (u z:Int) (hE:E.length≤50000) (h:BxY w w0 U0 wr B most p d sP oP sR (some (x,E)) pv pk) :
  Calls Tryz.prog 27 #[.pointer pk,.int .i64 u,.int .i64 z] wr fun e w1=>∃a c,e = .returned (.tuple #[.slice a (fiX (ofE E) u z).2.length c,.int .i64 (fiX (ofE E) u z).1])∧SlAt w1 a (fiX (ofE E) u z).2∧Below wr.heap.size wr w1:=by
 obtain⟨q,b,Gt,rfl,hp,-⟩:=h.rz
 obtain⟨G,v,vu,k,n1,f1⟩:=hp
 exact ybFirst_any wr d G sR q v x b most.toNat vu E u z hE k
theorem blenPY_any (u:Int) (h:BxY w w0 U0 wr B most p d sP (some (x,E)) sR oR pv pk) :
  Calls Tryz.prog 10 #[.pointer pv,.int .i64 u] wr fun e w1=>e = .returned (.int .i64 (lnX (ofE E) u:Int))∧w1=wr:=by
 obtain⟨q,b,Ft,rfl,hp,-⟩:=h.pz
 obtain⟨F,v,vs,k,n1,f1⟩:=hp
 exact xlen_any w wr p F sP q v x b most.toNat vs (ofE E) u k
theorem bofRY_any (z:Int) (hE:E.length≤50000) (uE:Bx.Us E) (h:BxY w w0 U0 wr B most p d sP oP sR (some (x,E)) pv pk) :
  Calls Tryz.prog 11 #[.pointer pk,.int .i64 z] wr fun e w1=>∃a c,e = .returned (.slice a (lnX (ofE E) z) c)∧Below wr.heap.size wr w1:=by
 obtain⟨q,b,Gt,rfl,hp,-⟩:=h.rz
 obtain⟨G,v,vu,k,n1,f1⟩:=hp
 have hz:(ofZ E z).length=lnX (ofE E) z:=by
  unfold lnX
  by_cases c:noU z=true
  ·rw[if_pos c,ofZ_no uE c];rfl
  ·rw[if_neg c]
   have hz0:(z.toNat:Int)=z:=by unfold noU at c;simp at c;omega
   rw[←ofZ_nat,hz0]
 refine (ybOf_any wr d G sR q v x b most.toNat vu E z hE k).mono ?_
 rintro e w1 ⟨y,e1,e2,e3⟩
 obtain⟨a,c,rfl,-⟩:=owns_sl rfl e2
 rw[hz] at e1
 exact⟨a,c,e1,e3⟩
end
def Rmm (w:World) (g c:Nat):Prop:=∀i,i < c→(∃u,w.cell? ⟨g,i,none⟩=some u)∧w.frozen? ⟨g,i,none⟩=false
theorem Rmm.set {w:World} {g c:Nat} (h:Rmm w g c) (k:Nat) (v:Value):Rmm (w.setCell ⟨g,k,none⟩ v) g c:=fun i hi=>by
 obtain⟨⟨u,h1⟩,h2⟩:=h i hi
 refine⟨?_,by rw[World.frozen?_setCell];exact h2⟩
 by_cases e:k=i
 ·subst e
  exact⟨v,World.cell?_setCell_same _ _ _ h1⟩
 ·exact⟨u,by rw[World.cell?_setCell_other _ _ _ _ (fun q=>e (by injection q with q1 q2 q3)),h1]⟩
set_option maxHeartbeats 1000000 in
theorem xspoil_any (a:Option Addr) (n c base:Nat) (l:List Sl) (w:World) (h:w.ownsRow base 58 2 (.slice a n c) n (scx l)) :
  Calls Tryz.prog 29 #[.slice a n c] w fun e w'=>e = .returned (.tuple #[])∧Bf (fun g=>(Value.slice a n c).ownBlock=some g) w w':=by
 rcases h.2 with ⟨e,-⟩|⟨g,cap,cur,e,-,hb,hc,hM,hs,-⟩
 ·injection e with e1 e2 e3
  subst e1 e2 e3
  have FF:Hid (Bf (fun g=>(Value.slice none 0 0).ownBlock=some g) w w):=Bf.refl _ _
  clear h
  go_enter Tryz.func29, Tryz.ntmps29
  go_wp2_with fail
  go_loopw [2] (fun i wr=>i = .int .i64 0∧w=wr) (fun i wr=>0)
  case atStart=>exact⟨rfl,rfl⟩
  case round =>
   obtain⟨rfl,hw⟩:=hrel
   subst hw
   go_wp2
   go_end0
   exact⟨rfl,FF.out⟩
 ·injection e with e1 e2 e3
  subst e1 e3
  have hcap:c≤9223372036854775807:=by unfold maxLen at hM;omega
  have hcc:(c:Int)≤(c:Int):=Int.le_refl _
  have R0:Hid (Rmm w g (c*2)):=fun i hi=>by
   have hi2:i < cur.size:=by omega
   exact⟨⟨cur[i],by simp[World.cell?,hb,hi2]⟩,by simp[World.frozen?,hb]⟩
  clear h hb hc hM hs
  go_enter Tryz.func29, Tryz.ntmps29
  go_wp2_with fail
  go_loopw [2] (fun i wr=>∃k:Nat,k≤c∧i = .int .i64 (k:Int)∧Hid (Rmm wr g (c*2)∧Bf (fun q=>q=g) w wr)) (fun i wr=>c - (intOf i).toNat)
  case atStart=>exact⟨0,Nat.zero_le _,rfl,R0.out,Bf.refl _ _⟩
  case round =>
   obtain⟨k,hk,rfl,I⟩:=hrel
   clear R0
   by_cases hkc:k < c
   ·obtain⟨⟨u,c1⟩,c2⟩:=I.out.1 (k*2) (by omega)
    obtain⟨⟨u2,c3⟩,c4⟩:=I.out.1 (k*2+1) (by omega)
    have gk:(k:Int) < (c:Int):=by omega
    have st1:∀(W:World) (i:Nat) (v:Value),Bf (fun q=>q=g) w W→Bf (fun q=>q=g) w (W.setCell ⟨g,i,none⟩ v):=fun W i v f=>f.trans (Nx.refl _ _) ⟨rfl,rfl,rfl,by simp,fun q _ hq=>Below.heap_setCell W ⟨g,i,none⟩ _ q hq⟩
    have J:Hid (Rmm ((wr.setCell ⟨g,k*2,none⟩ (.string ⟨#[115,112,111,105,108,116]⟩)).setCell ⟨g,k*2+1,none⟩ (.string ⟨#[]⟩)) g (c*2)∧Bf (fun q=>q=g) w ((wr.setCell ⟨g,k*2,none⟩ (.string ⟨#[115,112,111,105,108,116]⟩)).setCell ⟨g,k*2+1,none⟩ (.string ⟨#[]⟩))):=⟨(I.out.1.set _ _).set _ _,st1 _ _ _ (st1 _ _ _ I.out.2)⟩
    clear I st1
    go_wp2
    go_roundw
    case rel=>exact⟨k+1,by omega,by go_num,J.out⟩
    case measure=>simp[intOf];omega
   ·obtain rfl:k=c:=by omega
    have FF:Hid (Bf (fun q=>(Value.slice (some ⟨g,0,none⟩) n k).ownBlock=some q) w wr):=⟨I.out.2.os,I.out.2.tape,I.out.2.output,I.out.2.size,fun q hq hn=>I.out.2.block q hq (fun e=>hn (by subst e;rfl))⟩
    clear I
    go_wp2
    go_end0
    exact⟨rfl,FF.out⟩
def FA (B A p d:Nat) (ps pk:Option Addr) (k0 k1 k2:Int) (X T I P:Value) (w':World):Prop:=w'.cell? ⟨B,1,none⟩=some (.pointer (some ⟨p,0,none⟩))∧w'.cell? ⟨B,2,none⟩=some (.pointer (some ⟨d,0,none⟩))∧w'.cell? ⟨B,3,none⟩=some (.pointer ps)∧w'.cell? ⟨B,4,none⟩=some (.pointer pk)∧w'.cell? ⟨A,0,none⟩=some (.int .i64 k0)∧w'.cell? ⟨A,1,none⟩=some (.int .i64 k1)∧w'.cell? ⟨A,2,none⟩=some (.int .i64 k2)∧w'.cell? ⟨A,3,none⟩=some X∧w'.cell? ⟨A,4,none⟩=some T∧w'.cell? ⟨A,5,none⟩=some I∧w'.cell? ⟨A,6,none⟩=some P
theorem FA.later {B A p d:Nat} {ps pk:Option Addr} {k0 k1 k2:Int} {X T I P:Value} {w w':World} (h:FA B A p d ps pk k0 k1 k2 X T I P w) (hb:Below w.heap.size w w'):FA B A p d ps pk k0 k1 k2 X T I P w':=⟨cell_later hb h.1,cell_later hb h.2.1,cell_later hb h.2.2.1,cell_later hb h.2.2.2.1,cell_later hb h.2.2.2.2.1,cell_later hb h.2.2.2.2.2.1,cell_later hb h.2.2.2.2.2.2.1,cell_later hb h.2.2.2.2.2.2.2.1,cell_later hb h.2.2.2.2.2.2.2.2.1,cell_later hb h.2.2.2.2.2.2.2.2.2.1,cell_later hb h.2.2.2.2.2.2.2.2.2.2⟩
theorem FA.drew {B A p d:Nat} {ps pk:Option Addr} {k0 k1 k2:Int} {X T I P:Value} {w:World} (h:FA B A p d ps pk k0 k1 k2 X T I P w):FA B A p d ps pk k0 k1 k2 X T I P w.drew:=h.later (Below.refl _ _).drew
def opf10_0:Oper:={ dst:=some 72,op:=Go.Op.move (Go.Operand.tmp 5),type := 84, pos := "law.go:56", after:=#[],guard:=none }
def opf10_1:Oper:={ dst:=some 73,op:=Go.Op.binOp Go.BinOp.neq 84 (Go.Operand.tmp 72) (Go.Operand.const (Go.Value.pointer none)) 84, type := 4, pos := "law.go:56", after:=#[{ on:=0,ground:=Go.Ground.data }],guard:=none }
def opf10_2:Oper:={ dst:=some 74,op:=Go.Op.move (Go.Operand.tmp 73),type := 4, pos := "law.go:56", after:=#[{ on:=1,ground:=Go.Ground.data }],guard:=none }
def opf10_3:Oper:={ dst:=some 75,op:=Go.Op.move (Go.Operand.tmp 7),type := 90, pos := "law.go:56", after:=#[{ on:=2,ground:=Go.Ground.guard }],guard:=some (2,true) }
def opf10_4:Oper:={ dst:=some 76,op:=Go.Op.binOp Go.BinOp.neq 90 (Go.Operand.tmp 75) (Go.Operand.const (Go.Value.pointer none)) 90, type := 4, pos := "law.go:56", after:=#[{ on:=3,ground:=Go.Ground.data },{ on:=2,ground:=Go.Ground.guard }],guard:=some (2,true) }
def opf10_5:Oper:={ dst:=some 77,op:=Go.Op.pick (Go.Operand.tmp 74) (Go.Operand.tmp 76) (Go.Operand.const (Go.Value.bool false)),type := 4, pos := "law.go:56", after:=#[{ on:=2,ground:=Go.Ground.data },{ on:=4,ground:=Go.Ground.data }],guard:=none }
def opf10_6:Oper:={ dst:=some 78,op:=Go.Op.move (Go.Operand.tmp 77),type := 4, pos := "law.go:56", after:=#[{ on:=5,ground:=Go.Ground.data },{ on:=2,ground:=Go.Ground.chain }],guard:=none }
def opf10_7:Oper:={ dst:=some 79,op:=Go.Op.move (Go.Operand.tmp 5),type := 84, pos := "law.go:56", after:=#[{ on:=6,ground:=Go.Ground.guard }],guard:=some (6,true) }
def opf10_8:Oper:={ dst:=some 80,op:=Go.Op.fieldAddr 40 (Go.Operand.tmp 3) 4,type:=0,pos := "law.go:56", after:=#[{ on:=6,ground:=Go.Ground.guard }],guard:=some (6,true) }
def opf10_9:Oper:={ dst:=some 81,op:=Go.Op.load 9 (Go.Operand.tmp 80),type := 9, pos := "law.go:56", after:=#[{ on:=8,ground:=Go.Ground.data },{ on:=6,ground:=Go.Ground.guard }],guard:=some (6,true) }
def opf10_10:Oper:={ dst:=some 82,op:=Go.Op.call { callee:=Go.Callee.value (Go.Operand.func 52),args:=#[Go.Operand.tmp 79,Go.Operand.tmp 81],argTypes:=#[84, 9] },type := 24, pos := "law.go:56", after:=#[{ on:=7,ground:=Go.Ground.data },{ on:=9,ground:=Go.Ground.data },{ on:=6,ground:=Go.Ground.chain },{ on:=6,ground:=Go.Ground.guard }],guard:=some (6,true) }
def opf10_11:Oper:={ dst:=some 83,op:=Go.Op.move (Go.Operand.tmp 7),type := 90, pos := "law.go:56", after:=#[{ on:=6,ground:=Go.Ground.guard }],guard:=some (6,true) }
def opf10_12:Oper:={ dst:=some 84,op:=Go.Op.fieldAddr 40 (Go.Operand.tmp 3) 4,type:=0,pos := "law.go:56", after:=#[{ on:=6,ground:=Go.Ground.guard }],guard:=some (6,true) }
def opf10_13:Oper:={ dst:=some 85,op:=Go.Op.load 9 (Go.Operand.tmp 84),type := 9, pos := "law.go:56", after:=#[{ on:=12,ground:=Go.Ground.data },{ on:=6,ground:=Go.Ground.guard }],guard:=some (6,true) }
def opf10_14:Oper:={ dst:=some 86,op:=Go.Op.call { callee:=Go.Callee.value (Go.Operand.func 53),args:=#[Go.Operand.tmp 83,Go.Operand.tmp 85],argTypes:=#[90, 9] },type := 24, pos := "law.go:56", after:=#[{ on:=11,ground:=Go.Ground.data },{ on:=13,ground:=Go.Ground.data },{ on:=10,ground:=Go.Ground.chain },{ on:=6,ground:=Go.Ground.guard }],guard:=some (6,true) }
def opf10_15:Oper:={ dst:=some 87,op:=Go.Op.binOp Go.BinOp.neq 24 (Go.Operand.tmp 82) (Go.Operand.tmp 86) 24, type := 4, pos := "law.go:56", after:=#[{ on:=10,ground:=Go.Ground.data },{ on:=14,ground:=Go.Ground.data },{ on:=6,ground:=Go.Ground.guard }],guard:=some (6,true) }
def opf10_16:Oper:={ dst:=some 88,op:=Go.Op.move (Go.Operand.tmp 87),type := 4, pos := "law.go:56", after:=#[{ on:=15,ground:=Go.Ground.data },{ on:=14,ground:=Go.Ground.chain },{ on:=6,ground:=Go.Ground.guard }],guard:=some (6,true) }
def opf10_17:Oper:={ dst:=some 89,op:=Go.Op.move (Go.Operand.tmp 5),type := 84, pos := "law.go:56", after:=#[{ on:=16,ground:=Go.Ground.guard }],guard:=some (16,false) }
def opf10_18:Oper:={ dst:=some 90,op:=Go.Op.call { callee:=Go.Callee.value (Go.Operand.func 54),args:=#[Go.Operand.tmp 89],argTypes:=#[84] },type := 24, pos := "law.go:56", after:=#[{ on:=17,ground:=Go.Ground.data },{ on:=16,ground:=Go.Ground.chain },{ on:=16,ground:=Go.Ground.guard }],guard:=some (16,false) }
def opf10_19:Oper:={ dst:=some 91,op:=Go.Op.move (Go.Operand.tmp 0),type := 31, pos := "law.go:56", after:=#[{ on:=16,ground:=Go.Ground.guard }],guard:=some (16,false) }
def opf10_20:Oper:={ dst:=some 92,op:=Go.Op.nilCheck (Go.Operand.tmp 91),type:=0,pos := "law.go:56", after:=#[{ on:=19,ground:=Go.Ground.data },{ on:=16,ground:=Go.Ground.guard }],guard:=some (16,false) }
def opf10_21:Oper:={ dst:=some 93,op:=Go.Op.fieldAddr 35 (Go.Operand.tmp 92) 2,type:=0,pos := "law.go:56", after:=#[{ on:=20,ground:=Go.Ground.data },{ on:=16,ground:=Go.Ground.guard }],guard:=some (16,false) }
def opf10_22:Oper:={ dst:=some 94,op:=Go.Op.load 27 (Go.Operand.tmp 93),type := 27, pos := "law.go:56", after:=#[{ on:=21,ground:=Go.Ground.data },{ on:=16,ground:=Go.Ground.guard }],guard:=some (16,false) }
def opf10_23:Oper:={ dst:=some 95,op:=Go.Op.call { callee:=Go.Callee.value (Go.Operand.func 55),args:=#[Go.Operand.tmp 94],argTypes:=#[27] },type := 24, pos := "law.go:56", after:=#[{ on:=22,ground:=Go.Ground.data },{ on:=18,ground:=Go.Ground.chain },{ on:=16,ground:=Go.Ground.guard }],guard:=some (16,false) }
def opf10_24:Oper:={ dst:=some 96,op:=Go.Op.binOp Go.BinOp.neq 24 (Go.Operand.tmp 90) (Go.Operand.tmp 95) 24, type := 4, pos := "law.go:56", after:=#[{ on:=18,ground:=Go.Ground.data },{ on:=23,ground:=Go.Ground.data },{ on:=16,ground:=Go.Ground.guard }],guard:=some (16,false) }
def opf10_25:Oper:={ dst:=some 97,op:=Go.Op.pick (Go.Operand.tmp 88) (Go.Operand.const (Go.Value.bool true)) (Go.Operand.tmp 96),type := 4, pos := "law.go:56", after:=#[{ on:=16,ground:=Go.Ground.data },{ on:=24,ground:=Go.Ground.data },{ on:=6,ground:=Go.Ground.guard }],guard:=some (6,true) }
def opf10_26:Oper:={ dst:=some 98,op:=Go.Op.pick (Go.Operand.tmp 78) (Go.Operand.tmp 97) (Go.Operand.const (Go.Value.bool false)),type := 4, pos := "law.go:56", after:=#[{ on:=6,ground:=Go.Ground.data },{ on:=25,ground:=Go.Ground.data }],guard:=none }
section
variable (B A p d:Nat) (ps pk:Option Addr) (k0 k1 k2:Int) (X T:ByteArray) (ia:Option Addr) (im ic:Nat) (pa:Option Addr) (pn pc:Nat) (PO:World→Prop) (wr:World)
set_option maxHeartbeats 4000000 in
theorem outer_fuse (hA:wr.heap.size=A) (Q0 Q1:World→Prop) (e1:Int) (AM:Hid (∀w,Calls Tryz.prog 14 #[.int .i64 k0,.int .i64 6] w fun e w'=>e = .returned (.int .i64 3)∧w'=w))
  (D0:Hid (∀W,Q0 W→Q0 W.drew)) (K0:Hid (Q0 (wr.alloc (.cells #[.int .i64 k0,.int .i64 k1,.int .i64 k2,.string X,.string T,.slice ia im ic,.slice pa pn pc] 40))∧FA B A p d ps pk k0 k1 k2 (.string X) (.string T) (.slice ia im ic) (.slice pa pn pc) (wr.alloc (.cells #[.int .i64 k0,.int .i64 k1,.int .i64 k2,.string X,.string T,.slice ia im ic,.slice pa pn pc] 40))))
  (C1:Hid (∀W,Q0 W→Calls Tryz.prog 48 #[.pointer (some ⟨p,0,none⟩),.int .i64 k2] W fun e w1=>e = .returned (.int .i64 e1)∧FA B A p d ps pk k0 k1 k2 (.string X) (.string T) (.slice ia im ic) (.slice pa pn pc) w1∧Hid (Q1 w1)))
  (C2:Hid (∀W,Q1 W→Calls Tryz.prog 49 #[.pointer (some ⟨d,0,none⟩),.int .i64 k2] W fun e w1=>e = .returned (.int .i64 e1)∧FA B A p d ps pk k0 k1 k2 (.string X) (.string T) (.slice ia im ic) (.slice pa pn pc) w1∧Hid (PO w1))) :
  Calls Tryz.prog 25 #[.pointer (some ⟨B,0,none⟩),.agg #[.int .i64 k0,.int .i64 k1,.int .i64 k2,.string X,.string T,.slice ia im ic,.slice pa pn pc]] wr fun e w'=>e = .returned (.bool true)∧PO w':=by
 obtain⟨W1,hW1⟩:∃W,wr.alloc (.cells #[.int .i64 k0,.int .i64 k1,.int .i64 k2,.string X,.string T,.slice ia im ic,.slice pa pn pc] 40)=W:=⟨_,rfl⟩
 rw[hW1] at K0
 have K0d:Hid (Q0 W1.drew):=D0.out _ K0.out.1
 have f0:FA B A p d ps pk k0 k1 k2 (.string X) (.string T) (.slice ia im ic) (.slice pa pn pc) W1.drew:=K0.out.2.drew
 have a0:W1.cell? ⟨A,0,none⟩=some (.int .i64 k0):=K0.out.2.2.2.2.2.1
 clear K0 D0
 go_enter Tryz.func25, Tryz.ntmps25
 go_wp2_with fail
 refine Calls.mono (AM.out _) ?_
 rintro e w1 ⟨rfl,rfl⟩
 clear hA hW1
 go_wp2_with fail
 go_region_held3 (fun w'=>w'.cell? ⟨B,1,none⟩=some (.pointer (some ⟨p,0,none⟩))∧w'.cell? ⟨B,2,none⟩=some (.pointer (some ⟨d,0,none⟩))∧w'.cell? ⟨B,3,none⟩=some (.pointer ps)∧w'.cell? ⟨B,4,none⟩=some (.pointer pk)∧w'.cell? ⟨A,0,none⟩=some (.int .i64 k0)∧w'.cell? ⟨A,1,none⟩=some (.int .i64 k1)∧w'.cell? ⟨A,2,none⟩=some (.int .i64 k2)∧w'.cell? ⟨A,3,none⟩=some (.string X)∧w'.cell? ⟨A,4,none⟩=some (.string T)∧w'.cell? ⟨A,5,none⟩=some (.slice ia im ic)∧w'.cell? ⟨A,6,none⟩=some (.slice pa pn pc)) (first|exact f0|assumption) (first|(go_at_call 48;refine Calls.mono (C1.out _ K0d.out) ?_;rintro e w2 ⟨rfl,f2,K2⟩)|(go_at_call 49;refine Calls.mono (C2.out _ K2.out) ?_;rintro e w3 ⟨rfl,f3,K3⟩))
 clear C1 C2 K0d K2 f0 f2 f3 a0 AM
 go_wp2
 go_ret
 exact⟨rfl,K3.out⟩
set_option maxHeartbeats 4000000 in
theorem outer_crash (hA:wr.heap.size=A) (Q0 Q1 Q2:World→Prop) (AM:Hid (∀w,Calls Tryz.prog 14 #[.int .i64 k0,.int .i64 6] w fun e w'=>e = .returned (.int .i64 4)∧w'=w))
  (D0:Hid (∀W,Q0 W→Q0 W.drew)) (D1:Hid (∀W,Q1 W→Q1 W.drew)) (K0:Hid (Q0 (wr.alloc (.cells #[.int .i64 k0,.int .i64 k1,.int .i64 k2,.string X,.string T,.slice ia im ic,.slice pa pn pc] 40))∧FA B A p d ps pk k0 k1 k2 (.string X) (.string T) (.slice ia im ic) (.slice pa pn pc) (wr.alloc (.cells #[.int .i64 k0,.int .i64 k1,.int .i64 k2,.string X,.string T,.slice ia im ic,.slice pa pn pc] 40))))
  (C1:Hid (∀W,Q0 W→Calls Tryz.prog 50 #[.pointer (some ⟨p,0,none⟩),.slice pa pn pc] W fun e w1=>e = .returned (.int .i64 0)∧FA B A p d ps pk k0 k1 k2 (.string X) (.string T) (.slice ia im ic) (.slice pa pn pc) w1∧Hid (Q1 w1)))
  (C2:Hid (∀W,Q1 W→Calls Tryz.prog 51 #[.pointer (some ⟨d,0,none⟩),.slice pa pn pc] W fun e w1=>e = .returned (.int .i64 0)∧FA B A p d ps pk k0 k1 k2 (.string X) (.string T) (.slice ia im ic) (.slice pa pn pc) w1∧Hid (Q2 w1)))
  (P1:Hid (∀W,Q2 W→Calls Tryz.prog 8 #[.pointer (some ⟨B,0,none⟩)] W fun e w1=>e = .returned (.bool true)∧PO w1)) :
  Calls Tryz.prog 25 #[.pointer (some ⟨B,0,none⟩),.agg #[.int .i64 k0,.int .i64 k1,.int .i64 k2,.string X,.string T,.slice ia im ic,.slice pa pn pc]] wr fun e w'=>e = .returned (.bool true)∧PO w':=by
 obtain⟨W1,hW1⟩:∃W,wr.alloc (.cells #[.int .i64 k0,.int .i64 k1,.int .i64 k2,.string X,.string T,.slice ia im ic,.slice pa pn pc] 40)=W:=⟨_,rfl⟩
 rw[hW1] at K0
 have K0d:Hid (Q0 W1.drew):=D0.out _ K0.out.1
 have f0:FA B A p d ps pk k0 k1 k2 (.string X) (.string T) (.slice ia im ic) (.slice pa pn pc) W1.drew:=K0.out.2.drew
 have a0:W1.cell? ⟨A,0,none⟩=some (.int .i64 k0):=K0.out.2.2.2.2.2.1
 clear K0 D0
 go_enter Tryz.func25, Tryz.ntmps25
 go_wp2_with fail
 refine Calls.mono (AM.out _) ?_
 rintro e w1 ⟨rfl,rfl⟩
 clear hA hW1
 go_wp2_with fail
 go_region_held3 (fun w'=>w'.cell? ⟨B,1,none⟩=some (.pointer (some ⟨p,0,none⟩))∧w'.cell? ⟨B,2,none⟩=some (.pointer (some ⟨d,0,none⟩))∧w'.cell? ⟨B,3,none⟩=some (.pointer ps)∧w'.cell? ⟨B,4,none⟩=some (.pointer pk)∧w'.cell? ⟨A,0,none⟩=some (.int .i64 k0)∧w'.cell? ⟨A,1,none⟩=some (.int .i64 k1)∧w'.cell? ⟨A,2,none⟩=some (.int .i64 k2)∧w'.cell? ⟨A,3,none⟩=some (.string X)∧w'.cell? ⟨A,4,none⟩=some (.string T)∧w'.cell? ⟨A,5,none⟩=some (.slice ia im ic)∧w'.cell? ⟨A,6,none⟩=some (.slice pa pn pc)) (first|exact f0|assumption) (first|(go_at_call 50;refine Calls.mono (C1.out _ K0d.out) ?_;rintro e w2 ⟨rfl,f2,K2⟩))
 have K2d:Hid (Q1 w2.drew):=D1.out _ K2.out
 have f2d:=f2.drew
 clear C1 K0d f0 K2 f2 D1 a0
 go_wp2_with fail
 go_region_held3 (fun w'=>w'.cell? ⟨B,1,none⟩=some (.pointer (some ⟨p,0,none⟩))∧w'.cell? ⟨B,2,none⟩=some (.pointer (some ⟨d,0,none⟩))∧w'.cell? ⟨B,3,none⟩=some (.pointer ps)∧w'.cell? ⟨B,4,none⟩=some (.pointer pk)∧w'.cell? ⟨A,0,none⟩=some (.int .i64 k0)∧w'.cell? ⟨A,1,none⟩=some (.int .i64 k1)∧w'.cell? ⟨A,2,none⟩=some (.int .i64 k2)∧w'.cell? ⟨A,3,none⟩=some (.string X)∧w'.cell? ⟨A,4,none⟩=some (.string T)∧w'.cell? ⟨A,5,none⟩=some (.slice ia im ic)∧w'.cell? ⟨A,6,none⟩=some (.slice pa pn pc)) (first|exact f2d|assumption) (first|(go_at_call 51;refine Calls.mono (C2.out _ K2d.out) ?_;rintro e w3 ⟨rfl,f3,K3⟩))
 have P3:Hid _:=P1.out _ K3.out
 clear C2 K2d f2d K3 P1
 obtain⟨b1,b2,b3,b4,a0,a1,a2,a3,a4,a5,a6⟩:=f3
 go_wp2_with fail
 refine Calls.mono (AM.out _) ?_
 rintro e w1 ⟨rfl,rfl⟩
 go_wp2_with fail
 refine Calls.mono P3.out ?_
 rintro e w10 ⟨rfl,h10⟩
 have FF:Hid _:=h10
 clear h10 P3 AM
 go_wp2
 go_ret
 exact⟨rfl,FF.out⟩
set_option maxHeartbeats 8000000 in
theorem outer_foreign (hA:wr.heap.size=A) (Q0 Q1 Q2:World→Prop) (Q3:Option Addr→World→Prop) (Q4 Q5 Q6 Q7 Q8:Option Addr→Option Addr→World→Prop) (z ya ys:Int) (AM:Hid (∀w,Calls Tryz.prog 14 #[.int .i64 k0,.int .i64 6] w fun e w'=>e = .returned (.int .i64 5)∧w'=w))
  (D4:Hid (∀a b W,Q4 a b W→Q4 a b W.drew))
  (D0:Hid (∀W,Q0 W→Q0 W.drew)) (D1:Hid (∀W,Q1 W→Q1 W.drew)) (K0:Hid (Q0 (wr.alloc (.cells #[.int .i64 k0,.int .i64 k1,.int .i64 k2,.string X,.string T,.slice ia im ic,.slice pa pn pc] 40))∧FA B A p d ps pk k0 k1 k2 (.string X) (.string T) (.slice ia im ic) (.slice pa pn pc) (wr.alloc (.cells #[.int .i64 k0,.int .i64 k1,.int .i64 k2,.string X,.string T,.slice ia im ic,.slice pa pn pc] 40))))
  (C1:Hid (∀W,Q0 W→Calls Tryz.prog 50 #[.pointer (some ⟨p,0,none⟩),.slice pa pn pc] W fun e w1=>e = .returned (.int .i64 0)∧FA B A p d ps pk k0 k1 k2 (.string X) (.string T) (.slice ia im ic) (.slice pa pn pc) w1∧Hid (Q1 w1)))
  (C2:Hid (∀W,Q1 W→Calls Tryz.prog 51 #[.pointer (some ⟨d,0,none⟩),.slice pa pn pc] W fun e w1=>e = .returned (.int .i64 0)∧FA B A p d ps pk k0 k1 k2 (.string X) (.string T) (.slice ia im ic) (.slice pa pn pc) w1∧Hid (Q2 w1)))
  (O1:Hid (∀W,Q2 W→Calls Tryz.prog 35 #[.pointer (some ⟨p,0,none⟩)] W fun e w1=>∃pl,e = .returned (.tuple #[.pointer pl,.int .i64 z])∧FA B A p d ps pk k0 k1 k2 (.string X) (.string T) (.slice ia im ic) (.slice pa pn pc) w1∧Hid (Q3 pl w1∧(z=0↔pl≠none))))
  (O2:Hid (∀W pl,Q3 pl W→Calls Tryz.prog 46 #[.pointer (some ⟨d,0,none⟩)] W fun e w1=>∃kl,e = .returned (.tuple #[.pointer kl,.int .i64 z])∧FA B A p d ps pk k0 k1 k2 (.string X) (.string T) (.slice ia im ic) (.slice pa pn pc) w1∧Hid (Q4 pl kl w1∧(z=0↔kl≠none))))
  (A1:Hid (∀W a b,z=0→Q4 (some a) (some b) W→Calls Tryz.prog 52 #[.pointer (some a),.string T] W fun e w1=>e = .returned (.int .i64 ya)∧FA B A p d ps pk k0 k1 k2 (.string X) (.string T) (.slice ia im ic) (.slice pa pn pc) w1∧Hid (Q5 (some a) (some b) w1)))
  (A2:Hid (∀W a b,z=0→Q5 (some a) (some b) W→Calls Tryz.prog 53 #[.pointer (some b),.string T] W fun e w1=>e = .returned (.int .i64 ya)∧FA B A p d ps pk k0 k1 k2 (.string X) (.string T) (.slice ia im ic) (.slice pa pn pc) w1∧Hid (Q6 (some a) (some b) w1)))
  (S1:Hid (∀W a b,z=0→Q6 (some a) (some b) W→Calls Tryz.prog 54 #[.pointer (some a)] W fun e w1=>e = .returned (.int .i64 ys)∧FA B A p d ps pk k0 k1 k2 (.string X) (.string T) (.slice ia im ic) (.slice pa pn pc) w1∧Hid (Q7 (some a) (some b) w1)))
  (S2:Hid (∀W a b,z=0→Q7 (some a) (some b) W→Calls Tryz.prog 55 #[.pointer (some ⟨d,0,none⟩)] W fun e w1=>e = .returned (.int .i64 ys)∧FA B A p d ps pk k0 k1 k2 (.string X) (.string T) (.slice ia im ic) (.slice pa pn pc) w1∧Hid (Q8 (some a) (some b) w1)))
  (P1:Hid (∀W a b,z=0→Q8 (some a) (some b) W→Calls Tryz.prog 8 #[.pointer (some ⟨B,0,none⟩)] W fun e w1=>e = .returned (.bool true)∧PO w1))
  (P2:Hid (∀W,z≠0→Q4 none none W→Calls Tryz.prog 8 #[.pointer (some ⟨B,0,none⟩)] W fun e w1=>e = .returned (.bool true)∧PO w1)) :
  Calls Tryz.prog 25 #[.pointer (some ⟨B,0,none⟩),.agg #[.int .i64 k0,.int .i64 k1,.int .i64 k2,.string X,.string T,.slice ia im ic,.slice pa pn pc]] wr fun e w'=>e = .returned (.bool true)∧PO w':=by
 obtain⟨W1,hW1⟩:∃W,wr.alloc (.cells #[.int .i64 k0,.int .i64 k1,.int .i64 k2,.string X,.string T,.slice ia im ic,.slice pa pn pc] 40)=W:=⟨_,rfl⟩
 rw[hW1] at K0
 have K0d:Hid (Q0 W1.drew):=D0.out _ K0.out.1
 have f0:FA B A p d ps pk k0 k1 k2 (.string X) (.string T) (.slice ia im ic) (.slice pa pn pc) W1.drew:=K0.out.2.drew
 have a0:W1.cell? ⟨A,0,none⟩=some (.int .i64 k0):=K0.out.2.2.2.2.2.1
 clear K0 D0
 go_enter Tryz.func25, Tryz.ntmps25
 go_wp2_with fail
 refine Calls.mono (AM.out _) ?_
 rintro e w1 ⟨rfl,rfl⟩
 clear hA hW1
 go_wp2_with fail
 go_region_held3 (fun w'=>w'.cell? ⟨B,1,none⟩=some (.pointer (some ⟨p,0,none⟩))∧w'.cell? ⟨B,2,none⟩=some (.pointer (some ⟨d,0,none⟩))∧w'.cell? ⟨B,3,none⟩=some (.pointer ps)∧w'.cell? ⟨B,4,none⟩=some (.pointer pk)∧w'.cell? ⟨A,0,none⟩=some (.int .i64 k0)∧w'.cell? ⟨A,1,none⟩=some (.int .i64 k1)∧w'.cell? ⟨A,2,none⟩=some (.int .i64 k2)∧w'.cell? ⟨A,3,none⟩=some (.string X)∧w'.cell? ⟨A,4,none⟩=some (.string T)∧w'.cell? ⟨A,5,none⟩=some (.slice ia im ic)∧w'.cell? ⟨A,6,none⟩=some (.slice pa pn pc)) (first|exact f0|assumption) (first|(go_at_call 50;refine Calls.mono (C1.out _ K0d.out) ?_;rintro e w2 ⟨rfl,f2,K2⟩))
 have K2d:Hid (Q1 w2.drew):=D1.out _ K2.out
 have f2d:=f2.drew
 clear C1 K0d f0 K2 f2 D1 a0
 go_wp2_with fail
 go_region_held3 (fun w'=>w'.cell? ⟨B,1,none⟩=some (.pointer (some ⟨p,0,none⟩))∧w'.cell? ⟨B,2,none⟩=some (.pointer (some ⟨d,0,none⟩))∧w'.cell? ⟨B,3,none⟩=some (.pointer ps)∧w'.cell? ⟨B,4,none⟩=some (.pointer pk)∧w'.cell? ⟨A,0,none⟩=some (.int .i64 k0)∧w'.cell? ⟨A,1,none⟩=some (.int .i64 k1)∧w'.cell? ⟨A,2,none⟩=some (.int .i64 k2)∧w'.cell? ⟨A,3,none⟩=some (.string X)∧w'.cell? ⟨A,4,none⟩=some (.string T)∧w'.cell? ⟨A,5,none⟩=some (.slice ia im ic)∧w'.cell? ⟨A,6,none⟩=some (.slice pa pn pc)) (first|exact f2d|assumption) (first|(go_at_call 51;refine Calls.mono (C2.out _ K2d.out) ?_;rintro e w3 ⟨rfl,f3,K3⟩))
 clear C2 K2d f2d
 obtain⟨b1,b2,b3,b4,a0,a1,a2,a3,a4,a5,a6⟩:=f3
 go_wp2_with fail
 refine Calls.mono (AM.out _) ?_
 rintro e w1 ⟨rfl,rfl⟩
 clear AM
 go_wp2_with fail
 refine Calls.mono (O1.out _ K3.out) ?_
 rintro e w4 ⟨pl,rfl,f4,K4⟩
 clear O1 K3 b1 b2 b3 b4 a0 a1 a2 a3 a4 a5 a6
 obtain⟨b1,b2,b3,b4,a0,a1,a2,a3,a4,a5,a6⟩:=f4
 go_wp2_with fail
 refine Calls.mono (O2.out _ _ K4.out.1) ?_
 rintro e w5 ⟨kl,rfl,f5,K5⟩
 have I1:Hid (z=0↔pl≠none):=K4.out.2
 clear O2 K4 b1 b2 b3 b4 a0 a1 a2 a3 a4 a5 a6
 have f5d:=f5.drew
 by_cases hz:z=0
 ·obtain⟨c1,rfl⟩:∃a,pl=some a:=by
   cases pl with
   | none=>exact absurd rfl (I1.out.1 hz)
   | some a=>exact⟨a,rfl⟩
  obtain⟨c2,rfl⟩:∃a,kl=some a:=by
   cases kl with
   | none=>exact absurd rfl (K5.out.2.1 hz)
   | some a=>exact⟨a,rfl⟩
  have K5d:Hid (Q4 (some c1) (some c2) w5.drew):=D4.out _ _ _ K5.out.1
  have A1':Hid _:=fun W=>A1.out W c1 c2 hz
  have A2':Hid _:=fun W=>A2.out W c1 c2 hz
  have S1':Hid _:=fun W=>S1.out W c1 c2 hz
  have S2':Hid _:=fun W=>S2.out W c1 c2 hz
  have P1':Hid _:=fun W=>P1.out W c1 c2 hz
  subst hz
  clear I1 K5 A1 A2 S1 S2 P1 P2 D4 f5
  go_wp2_with fail
  go_region_held3 (fun w'=>w'.cell? ⟨B,1,none⟩=some (.pointer (some ⟨p,0,none⟩))∧w'.cell? ⟨B,2,none⟩=some (.pointer (some ⟨d,0,none⟩))∧w'.cell? ⟨B,3,none⟩=some (.pointer ps)∧w'.cell? ⟨B,4,none⟩=some (.pointer pk)∧w'.cell? ⟨A,0,none⟩=some (.int .i64 k0)∧w'.cell? ⟨A,1,none⟩=some (.int .i64 k1)∧w'.cell? ⟨A,2,none⟩=some (.int .i64 k2)∧w'.cell? ⟨A,3,none⟩=some (.string X)∧w'.cell? ⟨A,4,none⟩=some (.string T)∧w'.cell? ⟨A,5,none⟩=some (.slice ia im ic)∧w'.cell? ⟨A,6,none⟩=some (.slice pa pn pc)) (first|exact f5d|assumption) (first|(go_at_call 52;refine Calls.mono (A1'.out _ K5d.out) ?_;rintro e w6 ⟨rfl,f6,K6⟩)|(go_at_call 53;refine Calls.mono (A2'.out _ K6.out) ?_;rintro e w7 ⟨rfl,f7,K7⟩)|(go_at_call 54;refine Calls.mono (S1'.out _ K7.out) ?_;rintro e w8 ⟨rfl,f8,K8⟩)|(go_at_call 55;refine Calls.mono (S2'.out _ K8.out) ?_;rintro e w9 ⟨rfl,f9,K9⟩))
  have P9:Hid _:=P1'.out _ K9.out
  clear A1' A2' S1' S2' P1' K5d K6 K7 K8 K9 f5d f6 f7 f8 f9
  go_wp2_with fail
  refine Calls.mono P9.out ?_
  rintro e w10 ⟨rfl,h10⟩
  have FF:Hid _:=h10
  clear h10 P9
  go_wp2
  go_ret
  exact⟨rfl,FF.out⟩
 ·obtain rfl:pl=none:=by
   cases pl with
   | none=>rfl
   | some a=>exact absurd (I1.out.2 (by simp)) hz
  obtain rfl:kl=none:=by
   cases kl with
   | none=>rfl
   | some a=>exact absurd (K5.out.2.2 (by simp)) hz
  have P9:Hid _:=P2.out _ hz (D4.out _ _ _ K5.out.1)
  clear I1 K5 A1 A2 S1 S2 P1 P2 D4 f5 hz
  go_wp2_with fail
  refine wp_region_noPanic ?_
  refine wp_region_held_drew (S:=fun _=>True) (by kernel_rfl) (trivial) (fun hHeld => ?_)
  refine wT 0 opf10_0 ?_ ?_ ?_;rotate_left
  ·intro w' hSw;clear hSw;unfold opf10_0;first|(go_simp;done)|(go_simp;with_reducible rfl)
  simp only[opf10_0,Act.put,wA,wB,wC]
  refine wT 1 opf10_1 ?_ ?_ ?_;rotate_left
  ·intro w' hSw;clear hSw;unfold opf10_1;first|(go_simp;done)|(go_simp;with_reducible rfl)
  simp only[opf10_1,Act.put,wA,wB,wC]
  refine wT 2 opf10_2 ?_ ?_ ?_;rotate_left
  ·intro w' hSw;clear hSw;unfold opf10_2;first|(go_simp;done)|(go_simp;with_reducible rfl)
  simp only[opf10_2,Act.put,wA,wB,wC]
  refine wpAnyH_take (i:=3) (oi:=opf10_3) (v:=undef) rfl (by kernel_rfl) (by kernel_rfl) (by kernel_rfl) (fun _ _ _ h=>h) (Or.inr ⟨by rfl,rfl⟩) (by assumption) ?_
  simp only[opf10_3,Act.put,wA,wB,wC]
  refine wpAnyH_take (i:=4) (oi:=opf10_4) (v:=undef) rfl (by kernel_rfl) (by kernel_rfl) (by kernel_rfl) (fun _ _ _ h=>h) (Or.inr ⟨by rfl,rfl⟩) (by assumption) ?_
  simp only[opf10_4,Act.put,wA,wB,wC]
  refine wT 5 opf10_5 ?_ ?_ ?_;rotate_left
  ·intro w' hSw;clear hSw;unfold opf10_5;first|(go_simp;done)|(go_simp;with_reducible rfl)
  simp only[opf10_5,Act.put,wA,wB,wC]
  refine wT 6 opf10_6 ?_ ?_ ?_;rotate_left
  ·intro w' hSw;clear hSw;unfold opf10_6;first|(go_simp;done)|(go_simp;with_reducible rfl)
  simp only[opf10_6,Act.put,wA,wB,wC]
  refine wpAnyH_take (i:=7) (oi:=opf10_7) (v:=undef) rfl (by kernel_rfl) (by kernel_rfl) (by kernel_rfl) (fun _ _ _ h=>h) (Or.inr ⟨by rfl,rfl⟩) (by assumption) ?_
  simp only[opf10_7,Act.put,wA,wB,wC]
  refine wpAnyH_take (i:=8) (oi:=opf10_8) (v:=undef) rfl (by kernel_rfl) (by kernel_rfl) (by kernel_rfl) (fun _ _ _ h=>h) (Or.inr ⟨by rfl,rfl⟩) (by assumption) ?_
  simp only[opf10_8,Act.put,wA,wB,wC]
  refine wpAnyH_take (i:=9) (oi:=opf10_9) (v:=undef) rfl (by kernel_rfl) (by kernel_rfl) (by kernel_rfl) (fun _ _ _ h=>h) (Or.inr ⟨by rfl,rfl⟩) (by assumption) ?_
  simp only[opf10_9,Act.put,wA,wB,wC]
  refine wpAnyH_take (i:=10) (oi:=opf10_10) (v:=undef) rfl (by kernel_rfl) (by kernel_rfl) (by kernel_rfl) (fun _ _ _ h=>h) (Or.inr ⟨by rfl,rfl⟩) (by assumption) ?_
  simp only[opf10_10,Act.put,wA,wB,wC]
  refine wpAnyH_take (i:=11) (oi:=opf10_11) (v:=undef) rfl (by kernel_rfl) (by kernel_rfl) (by kernel_rfl) (fun _ _ _ h=>h) (Or.inr ⟨by rfl,rfl⟩) (by assumption) ?_
  simp only[opf10_11,Act.put,wA,wB,wC]
  refine wpAnyH_take (i:=12) (oi:=opf10_12) (v:=undef) rfl (by kernel_rfl) (by kernel_rfl) (by kernel_rfl) (fun _ _ _ h=>h) (Or.inr ⟨by rfl,rfl⟩) (by assumption) ?_
  simp only[opf10_12,Act.put,wA,wB,wC]
  refine wpAnyH_take (i:=13) (oi:=opf10_13) (v:=undef) rfl (by kernel_rfl) (by kernel_rfl) (by kernel_rfl) (fun _ _ _ h=>h) (Or.inr ⟨by rfl,rfl⟩) (by assumption) ?_
  simp only[opf10_13,Act.put,wA,wB,wC]
  refine wpAnyH_take (i:=14) (oi:=opf10_14) (v:=undef) rfl (by kernel_rfl) (by kernel_rfl) (by kernel_rfl) (fun _ _ _ h=>h) (Or.inr ⟨by rfl,rfl⟩) (by assumption) ?_
  simp only[opf10_14,Act.put,wA,wB,wC]
  refine wpAnyH_take (i:=15) (oi:=opf10_15) (v:=undef) rfl (by kernel_rfl) (by kernel_rfl) (by kernel_rfl) (fun _ _ _ h=>h) (Or.inr ⟨by rfl,rfl⟩) (by assumption) ?_
  simp only[opf10_15,Act.put,wA,wB,wC]
  refine wpAnyH_take (i:=16) (oi:=opf10_16) (v:=undef) rfl (by kernel_rfl) (by kernel_rfl) (by kernel_rfl) (fun _ _ _ h=>h) (Or.inr ⟨by rfl,rfl⟩) (by assumption) ?_
  simp only[opf10_16,Act.put,wA,wB,wC]
  refine wpAnyH_take (i:=17) (oi:=opf10_17) (v:=undef) rfl (by kernel_rfl) (by kernel_rfl) (by kernel_rfl) (fun _ _ _ h=>h) (Or.inr ⟨by rfl,rfl⟩) (by assumption) ?_
  simp only[opf10_17,Act.put,wA,wB,wC]
  refine wpAnyH_take (i:=18) (oi:=opf10_18) (v:=undef) rfl (by kernel_rfl) (by kernel_rfl) (by kernel_rfl) (fun _ _ _ h=>h) (Or.inr ⟨by rfl,rfl⟩) (by assumption) ?_
  simp only[opf10_18,Act.put,wA,wB,wC]
  refine wpAnyH_take (i:=19) (oi:=opf10_19) (v:=undef) rfl (by kernel_rfl) (by kernel_rfl) (by kernel_rfl) (fun _ _ _ h=>h) (Or.inr ⟨by rfl,rfl⟩) (by assumption) ?_
  simp only[opf10_19,Act.put,wA,wB,wC]
  refine wpAnyH_take (i:=20) (oi:=opf10_20) (v:=undef) rfl (by kernel_rfl) (by kernel_rfl) (by kernel_rfl) (fun _ _ _ h=>h) (Or.inr ⟨by rfl,rfl⟩) (by assumption) ?_
  simp only[opf10_20,Act.put,wA,wB,wC]
  refine wpAnyH_take (i:=21) (oi:=opf10_21) (v:=undef) rfl (by kernel_rfl) (by kernel_rfl) (by kernel_rfl) (fun _ _ _ h=>h) (Or.inr ⟨by rfl,rfl⟩) (by assumption) ?_
  simp only[opf10_21,Act.put,wA,wB,wC]
  refine wpAnyH_take (i:=22) (oi:=opf10_22) (v:=undef) rfl (by kernel_rfl) (by kernel_rfl) (by kernel_rfl) (fun _ _ _ h=>h) (Or.inr ⟨by rfl,rfl⟩) (by assumption) ?_
  simp only[opf10_22,Act.put,wA,wB,wC]
  refine wpAnyH_take (i:=23) (oi:=opf10_23) (v:=undef) rfl (by kernel_rfl) (by kernel_rfl) (by kernel_rfl) (fun _ _ _ h=>h) (Or.inr ⟨by rfl,rfl⟩) (by assumption) ?_
  simp only[opf10_23,Act.put,wA,wB,wC]
  refine wpAnyH_take (i:=24) (oi:=opf10_24) (v:=undef) rfl (by kernel_rfl) (by kernel_rfl) (by kernel_rfl) (fun _ _ _ h=>h) (Or.inr ⟨by rfl,rfl⟩) (by assumption) ?_
  simp only[opf10_24,Act.put,wA,wB,wC]
  refine wpAnyH_take (i:=25) (oi:=opf10_25) (v:=undef) rfl (by kernel_rfl) (by kernel_rfl) (by kernel_rfl) (fun _ _ _ h=>h) (Or.inr ⟨by rfl,rfl⟩) (by assumption) ?_
  simp only[opf10_25,Act.put,wA,wB,wC]
  refine wT 26 opf10_26 ?_ ?_ ?_;rotate_left
  ·intro w' hSw;clear hSw;unfold opf10_26;first|(go_simp;done)|(go_simp;with_reducible rfl)
  simp only[opf10_26,Act.put,wA,wB,wC]
  refine wpAnyH_done (by kernel_rfl) ?_ _
  refine NoPanic.normal ?_
  go_wp2_with fail
  refine Calls.mono P9.out ?_
  rintro e w10 ⟨rfl,h10⟩
  have FF:Hid _:=h10
  clear h10 P9
  go_wp2
  go_ret
  exact⟨rfl,FF.out⟩
end
section
variable (B A p d:Nat) (k0 k1 k2:Int) (X T:ByteArray) (ia:Option Addr) (im ic:Nat) (pa:Option Addr) (pn pc:Nat) (ps pk:Option Addr) (PO Q0:World→Prop) (wr:World)
set_option maxHeartbeats 2000000 in
theorem stepY_outer (hA:wr.heap.size=A) (m:Int) (hm:2 < m) (AM:Hid (∀w,Calls Tryz.prog 14 #[.int .i64 k0,.int .i64 6] w fun e w'=>e = .returned (.int .i64 m)∧w'=w)) (K0:Hid (Q0 (wr.alloc (.cells #[.int .i64 k0,.int .i64 k1,.int .i64 k2,.string X,.string T,.slice ia im ic,.slice pa pn pc] 40))∧FA B A p d ps pk k0 k1 k2 (.string X) (.string T) (.slice ia im ic) (.slice pa pn pc) (wr.alloc (.cells #[.int .i64 k0,.int .i64 k1,.int .i64 k2,.string X,.string T,.slice ia im ic,.slice pa pn pc] 40))))
  (C1:Hid (∀W,Q0 W→Calls Tryz.prog 25 #[.pointer (some ⟨B,0,none⟩),.agg #[.int .i64 k0,.int .i64 k1,.int .i64 k2,.string X,.string T,.slice ia im ic,.slice pa pn pc]] W fun e w1=>e = .returned (.bool true)∧PO w1)) :
  Calls Tryz.prog 9 #[.pointer (some ⟨B,0,none⟩),.agg #[.int .i64 k0,.int .i64 k1,.int .i64 k2,.string X,.string T,.slice ia im ic,.slice pa pn pc]] wr fun e w'=>e = .returned (.bool true)∧PO w':=by
 obtain⟨W1,hW1⟩:∃W,wr.alloc (.cells #[.int .i64 k0,.int .i64 k1,.int .i64 k2,.string X,.string T,.slice ia im ic,.slice pa pn pc] 40)=W:=⟨_,rfl⟩
 rw[hW1] at K0
 have P3:Hid _:=C1.out _ K0.out.1
 obtain⟨b1,b2,b3,b4,a0,a1,a2,a3,a4,a5,a6⟩:=K0.out.2
 clear K0 C1
 go_enter Tryz.func9, Tryz.ntmps9
 go_wp2_with fail
 refine Calls.mono (AM.out _) ?_
 rintro e w1 ⟨rfl,rfl⟩
 clear hA hW1 AM
 go_wp2_with fail
 refine Calls.mono P3.out ?_
 rintro e w10 ⟨rfl,h10⟩
 have FF:Hid _:=h10
 clear h10 P3
 go_wp2
 go_ret
 exact⟨rfl,FF.out⟩
set_option maxHeartbeats 2000000 in
theorem stepY_idle (hA:wr.heap.size=A) (m:Int) (hm:¬2 < m) (dn:Bool) (hps:ps=none↔pk=none) (hdn:ps=none∨dn=true) (AM:Hid (∀w,Calls Tryz.prog 14 #[.int .i64 k0,.int .i64 6] w fun e w'=>e = .returned (.int .i64 m)∧w'=w))
  (K0:Hid ((wr.alloc (.cells #[.int .i64 k0,.int .i64 k1,.int .i64 k2,.string X,.string T,.slice ia im ic,.slice pa pn pc] 40)).cell? ⟨d,3,none⟩=some (.bool dn)∧PO (wr.alloc (.cells #[.int .i64 k0,.int .i64 k1,.int .i64 k2,.string X,.string T,.slice ia im ic,.slice pa pn pc] 40))∧FA B A p d ps pk k0 k1 k2 (.string X) (.string T) (.slice ia im ic) (.slice pa pn pc) (wr.alloc (.cells #[.int .i64 k0,.int .i64 k1,.int .i64 k2,.string X,.string T,.slice ia im ic,.slice pa pn pc] 40)))) :
  Calls Tryz.prog 9 #[.pointer (some ⟨B,0,none⟩),.agg #[.int .i64 k0,.int .i64 k1,.int .i64 k2,.string X,.string T,.slice ia im ic,.slice pa pn pc]] wr fun e w'=>e = .returned (.bool true)∧PO w':=by
 obtain⟨W1,hW1⟩:∃W,wr.alloc (.cells #[.int .i64 k0,.int .i64 k1,.int .i64 k2,.string X,.string T,.slice ia im ic,.slice pa pn pc] 40)=W:=⟨_,rfl⟩
 rw[hW1] at K0
 have FF:Hid (PO W1):=K0.out.2.1
 have d3:=K0.out.1
 obtain⟨b1,b2,b3,b4,a0,a1,a2,a3,a4,a5,a6⟩:=K0.out.2.2
 clear K0
 cases ps with
 | none =>
  obtain rfl:pk=none:=hps.1 rfl
  clear hps hdn
  go_enter Tryz.func9, Tryz.ntmps9
  go_wp2_with fail
  refine Calls.mono (AM.out _) ?_
  rintro e w1 ⟨rfl,rfl⟩
  clear hA hW1 AM
  go_wp2
  go_ret
  exact⟨rfl,FF.out⟩
 | some q1 =>
  obtain rfl:dn=true:=by
   rcases hdn with c|c
   ·cases c
   ·exact c
  cases pk with
  | none=>exact absurd (hps.2 rfl) (by simp)
  | some q2 =>
   clear hps hdn
   go_enter Tryz.func9, Tryz.ntmps9
   go_wp2_with fail
   refine Calls.mono (AM.out _) ?_
   rintro e w1 ⟨rfl,rfl⟩
   clear hA hW1 AM
   go_wp2
   go_ret
   exact⟨rfl,FF.out⟩
end
section
variable (B A p d:Nat) (k0 k1 k2:Int) (X T:ByteArray) (ia:Option Addr) (im ic:Nat) (pa:Option Addr) (pn pc:Nat) (q1 q2:Addr) (PO Q0:World→Prop) (wr:World)
set_option maxHeartbeats 4000000 in
theorem stepY_put (Q1:World→Prop) (hA:wr.heap.size=A) (e1:Int) (AM:Hid (∀w,Calls Tryz.prog 14 #[.int .i64 k0,.int .i64 6] w fun e w'=>e = .returned (.int .i64 0)∧w'=w)) (D0:Hid (∀W,Q0 W→Q0 W.drew))
  (K0:Hid ((wr.alloc (.cells #[.int .i64 k0,.int .i64 k1,.int .i64 k2,.string X,.string T,.slice ia im ic,.slice pa pn pc] 40)).cell? ⟨d,3,none⟩=some (.bool false)∧Q0 (wr.alloc (.cells #[.int .i64 k0,.int .i64 k1,.int .i64 k2,.string X,.string T,.slice ia im ic,.slice pa pn pc] 40))∧FA B A p d (some q1) (some q2) k0 k1 k2 (.string X) (.string T) (.slice ia im ic) (.slice pa pn pc) (wr.alloc (.cells #[.int .i64 k0,.int .i64 k1,.int .i64 k2,.string X,.string T,.slice ia im ic,.slice pa pn pc] 40))))
  (C1:Hid (∀W,Q0 W→Calls Tryz.prog 21 #[.pointer (some q1),.int .i64 k1,.string X,.string T] W fun e w1=>e = .returned (.int .i64 e1)∧FA B A p d (some q1) (some q2) k0 k1 k2 (.string X) (.string T) (.slice ia im ic) (.slice pa pn pc) w1∧Hid (Q1 w1)))
  (C2:Hid (∀W,Q1 W→Calls Tryz.prog 26 #[.pointer (some q2),.int .i64 k1,.string X,.string T] W fun e w1=>e = .returned (.int .i64 e1)∧FA B A p d (some q1) (some q2) k0 k1 k2 (.string X) (.string T) (.slice ia im ic) (.slice pa pn pc) w1∧Hid (PO w1))) :
  Calls Tryz.prog 9 #[.pointer (some ⟨B,0,none⟩),.agg #[.int .i64 k0,.int .i64 k1,.int .i64 k2,.string X,.string T,.slice ia im ic,.slice pa pn pc]] wr fun e w'=>e = .returned (.bool true)∧PO w':=by
 obtain⟨W1,hW1⟩:∃W,wr.alloc (.cells #[.int .i64 k0,.int .i64 k1,.int .i64 k2,.string X,.string T,.slice ia im ic,.slice pa pn pc] 40)=W:=⟨_,rfl⟩
 rw[hW1] at K0
 have K0d:Hid (Q0 W1.drew):=D0.out _ K0.out.2.1
 have f0:FA B A p d (some q1) (some q2) k0 k1 k2 (.string X) (.string T) (.slice ia im ic) (.slice pa pn pc) W1.drew:=K0.out.2.2.drew
 have d3:=K0.out.1
 obtain⟨b1,b2,b3,b4,a0,a1,a2,a3,a4,a5,a6⟩:=K0.out.2.2
 clear K0 D0
 go_enter Tryz.func9, Tryz.ntmps9
 go_wp2_with fail
 refine Calls.mono (AM.out _) ?_
 rintro e w1 ⟨rfl,rfl⟩
 clear hA hW1 AM
 go_wp2_with fail
 go_region_held3 (fun w'=>w'.cell? ⟨B,1,none⟩=some (.pointer (some ⟨p,0,none⟩))∧w'.cell? ⟨B,2,none⟩=some (.pointer (some ⟨d,0,none⟩))∧w'.cell? ⟨B,3,none⟩=some (.pointer (some q1))∧w'.cell? ⟨B,4,none⟩=some (.pointer (some q2))∧w'.cell? ⟨A,0,none⟩=some (.int .i64 k0)∧w'.cell? ⟨A,1,none⟩=some (.int .i64 k1)∧w'.cell? ⟨A,2,none⟩=some (.int .i64 k2)∧w'.cell? ⟨A,3,none⟩=some (.string X)∧w'.cell? ⟨A,4,none⟩=some (.string T)∧w'.cell? ⟨A,5,none⟩=some (.slice ia im ic)∧w'.cell? ⟨A,6,none⟩=some (.slice pa pn pc)) (first|exact f0|assumption) (first|(go_at_call 21;refine Calls.mono (C1.out _ K0d.out) ?_;rintro e w2 ⟨rfl,f2,K2⟩)|(go_at_call 26;refine Calls.mono (C2.out _ K2.out) ?_;rintro e w3 ⟨rfl,f3,K3⟩))
 clear C1 C2 K0d K2 f0 f2 f3 a0 a1 a2 a3 a4 a5 a6 b1 b2 b3 b4 d3
 go_wp2
 go_ret
 exact⟨rfl,K3.out⟩
set_option maxHeartbeats 4000000 in
theorem stepY_first (Q1 Q3:Option Addr→Nat→World→Prop) (Q2:Option Addr→Nat→Option Addr→Nat→World→Prop) (n:Nat) (hA:wr.heap.size=A) (z:Int) (AM:Hid (∀w,Calls Tryz.prog 14 #[.int .i64 k0,.int .i64 6] w fun e w'=>e = .returned (.int .i64 1)∧w'=w)) (D0:Hid (∀W,Q0 W→Q0 W.drew)) (D1:Hid (∀a c W,Q1 a c W→Q1 a c W.drew))
  (K0:Hid ((wr.alloc (.cells #[.int .i64 k0,.int .i64 k1,.int .i64 k2,.string X,.string T,.slice ia im ic,.slice pa pn pc] 40)).cell? ⟨d,3,none⟩=some (.bool false)∧Q0 (wr.alloc (.cells #[.int .i64 k0,.int .i64 k1,.int .i64 k2,.string X,.string T,.slice ia im ic,.slice pa pn pc] 40))∧FA B A p d (some q1) (some q2) k0 k1 k2 (.string X) (.string T) (.slice ia im ic) (.slice pa pn pc) (wr.alloc (.cells #[.int .i64 k0,.int .i64 k1,.int .i64 k2,.string X,.string T,.slice ia im ic,.slice pa pn pc] 40))))
  (C1:Hid (∀W,Q0 W→Calls Tryz.prog 22 #[.pointer (some q1),.int .i64 k1,.int .i64 k2] W fun e w1=>∃a c,e = .returned (.tuple #[.slice a n c,.int .i64 z])∧FA B A p d (some q1) (some q2) k0 k1 k2 (.string X) (.string T) (.slice ia im ic) (.slice pa pn pc) w1∧Hid (Q1 a c w1)))
  (C2:Hid (∀W a c,Q1 a c W→Calls Tryz.prog 27 #[.pointer (some q2),.int .i64 k1,.int .i64 k2] W fun e w1=>∃a2 c2,e = .returned (.tuple #[.slice a2 n c2,.int .i64 z])∧FA B A p d (some q1) (some q2) k0 k1 k2 (.string X) (.string T) (.slice ia im ic) (.slice pa pn pc) w1∧Hid (Q2 a c a2 c2 w1)))
  (C3:Hid (∀W a c a2 c2,Q2 a c a2 c2 W→Calls Tryz.prog 28 #[.slice a n c,.slice a2 n c2] W fun e w1=>e = .returned (.bool true)∧Hid (Q3 a c w1)))
  (C4:Hid (∀W a c,Q3 a c W→Calls Tryz.prog 29 #[.slice a n c] W fun e w1=>e = .returned (.tuple #[])∧Hid (PO w1))) :
  Calls Tryz.prog 9 #[.pointer (some ⟨B,0,none⟩),.agg #[.int .i64 k0,.int .i64 k1,.int .i64 k2,.string X,.string T,.slice ia im ic,.slice pa pn pc]] wr fun e w'=>e = .returned (.bool true)∧PO w':=by
 obtain⟨W1,hW1⟩:∃W,wr.alloc (.cells #[.int .i64 k0,.int .i64 k1,.int .i64 k2,.string X,.string T,.slice ia im ic,.slice pa pn pc] 40)=W:=⟨_,rfl⟩
 rw[hW1] at K0
 have K0d:Hid (Q0 W1.drew):=D0.out _ K0.out.2.1
 have f0:FA B A p d (some q1) (some q2) k0 k1 k2 (.string X) (.string T) (.slice ia im ic) (.slice pa pn pc) W1.drew:=K0.out.2.2.drew
 have d3:=K0.out.1
 obtain⟨b1,b2,b3,b4,a0,a1,a2,a3,a4,a5,a6⟩:=K0.out.2.2
 clear K0 D0
 go_enter Tryz.func9, Tryz.ntmps9
 go_wp2_with fail
 refine Calls.mono (AM.out _) ?_
 rintro e w1 ⟨rfl,rfl⟩
 clear hA hW1 AM
 go_wp2_with fail
 go_region_held3 (fun w'=>w'.cell? ⟨B,1,none⟩=some (.pointer (some ⟨p,0,none⟩))∧w'.cell? ⟨B,2,none⟩=some (.pointer (some ⟨d,0,none⟩))∧w'.cell? ⟨B,3,none⟩=some (.pointer (some q1))∧w'.cell? ⟨B,4,none⟩=some (.pointer (some q2))∧w'.cell? ⟨A,0,none⟩=some (.int .i64 k0)∧w'.cell? ⟨A,1,none⟩=some (.int .i64 k1)∧w'.cell? ⟨A,2,none⟩=some (.int .i64 k2)∧w'.cell? ⟨A,3,none⟩=some (.string X)∧w'.cell? ⟨A,4,none⟩=some (.string T)∧w'.cell? ⟨A,5,none⟩=some (.slice ia im ic)∧w'.cell? ⟨A,6,none⟩=some (.slice pa pn pc)) (first|exact f0|assumption) (first|(go_at_call 22;refine Calls.mono (C1.out _ K0d.out) ?_;rintro e w2 ⟨a,c,rfl,f2,K2⟩))
 have K2d:Hid (Q1 a c w2.drew):=D1.out _ _ _ K2.out
 have f2d:=f2.drew
 clear C1 K0d f0 K2 f2 D1 a0 a1 a2 a3 a4 a5 a6 b1 b2 b3 b4 d3
 go_wp2_with fail
 go_region_held3 (fun w'=>w'.cell? ⟨B,1,none⟩=some (.pointer (some ⟨p,0,none⟩))∧w'.cell? ⟨B,2,none⟩=some (.pointer (some ⟨d,0,none⟩))∧w'.cell? ⟨B,3,none⟩=some (.pointer (some q1))∧w'.cell? ⟨B,4,none⟩=some (.pointer (some q2))∧w'.cell? ⟨A,0,none⟩=some (.int .i64 k0)∧w'.cell? ⟨A,1,none⟩=some (.int .i64 k1)∧w'.cell? ⟨A,2,none⟩=some (.int .i64 k2)∧w'.cell? ⟨A,3,none⟩=some (.string X)∧w'.cell? ⟨A,4,none⟩=some (.string T)∧w'.cell? ⟨A,5,none⟩=some (.slice ia im ic)∧w'.cell? ⟨A,6,none⟩=some (.slice pa pn pc)) (first|exact f2d|assumption) (first|(go_at_call 27;refine Calls.mono (C2.out _ _ _ K2d.out) ?_;rintro e w3 ⟨a9,c9,rfl,f3,K3⟩))
 clear C2 K2d f2d f3
 go_wp2_with fail
 refine Calls.mono (C3.out _ _ _ _ _ K3.out) ?_
 rintro e w4 ⟨rfl,K4⟩
 clear C3 K3
 go_wp2_with fail
 refine Calls.mono (C4.out _ _ _ K4.out) ?_
 rintro e w5 ⟨rfl,K5⟩
 clear C4 K4
 go_wp2
 go_ret
 exact⟨rfl,K5.out⟩
set_option maxHeartbeats 4000000 in
theorem stepY_ack (Q1 Q2:World→Prop) (hA:wr.heap.size=A) (n e1:Int) (oa:Option Addr) (oc:Nat) (W1 W2:World) (hW1:wr.alloc (.cells #[.int .i64 k0,.int .i64 k1,.int .i64 k2,.string X,.string T,.slice ia im ic,.slice pa pn pc] 40)=W1) (AM:Hid (∀w,Calls Tryz.prog 14 #[.int .i64 k0,.int .i64 6] w fun e w'=>e = .returned (.int .i64 2)∧w'=w))
  (AP:(Builtin.append_ #[37, 37] 37 #[.slice (some ⟨W1.heap.size,0,none⟩) 0 0,.slice ia im ic]).run Tryz.prog (W1.alloc (.cells #[] 9)) = .ok (.slice oa im oc) W2)
  (d3:W1.cell? ⟨d,3,none⟩=some (.bool false)) (F1:FA B A p d (some q1) (some q2) k0 k1 k2 (.string X) (.string T) (.slice ia im ic) (.slice pa pn pc) W1) (c5:(W1.alloc (.cells #[] 9)).cell? ⟨A,5,none⟩=some (.slice ia im ic))
  (K0:Hid (Q0 W2.drew)) (F2:FA B A p d (some q1) (some q2) k0 k1 k2 (.string X) (.string T) (.slice ia im ic) (.slice pa pn pc) W2.drew) (D1:Hid (∀W,Q1 W→Q1 W.drew))
  (C1:Hid (∀W,Q0 W→Calls Tryz.prog 23 #[.pointer (some q1),.int .i64 k1,.slice oa im oc] W fun e w1=>e = .returned (.tuple #[.int .i64 n,.int .i64 e1])∧FA B A p d (some q1) (some q2) k0 k1 k2 (.string X) (.string T) (.slice ia im ic) (.slice pa pn pc) w1∧Hid (Q1 w1)))
  (C2:Hid (∀W,Q1 W→Calls Tryz.prog 30 #[.pointer (some q2),.int .i64 k1,.slice ia im ic] W fun e w1=>e = .returned (.tuple #[.int .i64 n,.int .i64 e1])∧FA B A p d (some q1) (some q2) k0 k1 k2 (.string X) (.string T) (.slice ia im ic) (.slice pa pn pc) w1∧Hid (Q2 w1)))
  (C3:Hid (∀W,Q2 W→Calls Tryz.prog 31 #[.slice oa im oc,.slice ia im ic] W fun e w1=>e = .returned (.bool true)∧Hid (PO w1))) :
  Calls Tryz.prog 9 #[.pointer (some ⟨B,0,none⟩),.agg #[.int .i64 k0,.int .i64 k1,.int .i64 k2,.string X,.string T,.slice ia im ic,.slice pa pn pc]] wr fun e w'=>e = .returned (.bool true)∧PO w':=by
 have AP1:Hid _:=AP
 obtain⟨b1,b2,b3,b4,a0,a1,a2,a3,a4,a5,a6⟩:=F1
 go_enter Tryz.func9, Tryz.ntmps9
 go_wp2_with fail
 refine Calls.mono (AM.out _) ?_
 rintro e w1 ⟨rfl,rfl⟩
 clear hA hW1 AM AP
 go_wp2_with (at_builtin;refine Go.Lib.wpList_append_run _ rfl _ _ _ _ rfl _ _ rfl rfl _ _ AP1.out ?_)
 go_wp2_with fail
 clear AP1 c5 a0 a1 a2 a3 a4 a5 a6 b1 b2 b3 b4 d3
 go_region_held3 (fun w'=>w'.cell? ⟨B,1,none⟩=some (.pointer (some ⟨p,0,none⟩))∧w'.cell? ⟨B,2,none⟩=some (.pointer (some ⟨d,0,none⟩))∧w'.cell? ⟨B,3,none⟩=some (.pointer (some q1))∧w'.cell? ⟨B,4,none⟩=some (.pointer (some q2))∧w'.cell? ⟨A,0,none⟩=some (.int .i64 k0)∧w'.cell? ⟨A,1,none⟩=some (.int .i64 k1)∧w'.cell? ⟨A,2,none⟩=some (.int .i64 k2)∧w'.cell? ⟨A,3,none⟩=some (.string X)∧w'.cell? ⟨A,4,none⟩=some (.string T)∧w'.cell? ⟨A,5,none⟩=some (.slice ia im ic)∧w'.cell? ⟨A,6,none⟩=some (.slice pa pn pc)) (first|exact F2|assumption) (first|(go_at_call 23;refine Calls.mono (C1.out _ K0.out) ?_;rintro e w2 ⟨rfl,f2,K2⟩))
 have K2d:Hid (Q1 w2.drew):=D1.out _ K2.out
 have f2d:=f2.drew
 clear C1 K0 F2 K2 f2 D1
 go_wp2_with fail
 go_region_held3 (fun w'=>w'.cell? ⟨B,1,none⟩=some (.pointer (some ⟨p,0,none⟩))∧w'.cell? ⟨B,2,none⟩=some (.pointer (some ⟨d,0,none⟩))∧w'.cell? ⟨B,3,none⟩=some (.pointer (some q1))∧w'.cell? ⟨B,4,none⟩=some (.pointer (some q2))∧w'.cell? ⟨A,0,none⟩=some (.int .i64 k0)∧w'.cell? ⟨A,1,none⟩=some (.int .i64 k1)∧w'.cell? ⟨A,2,none⟩=some (.int .i64 k2)∧w'.cell? ⟨A,3,none⟩=some (.string X)∧w'.cell? ⟨A,4,none⟩=some (.string T)∧w'.cell? ⟨A,5,none⟩=some (.slice ia im ic)∧w'.cell? ⟨A,6,none⟩=some (.slice pa pn pc)) (first|exact f2d|assumption) (first|(go_at_call 30;refine Calls.mono (C2.out _ K2d.out) ?_;rintro e w3 ⟨rfl,f3,K3⟩))
 clear C2 K2d f2d
 obtain⟨b1,b2,b3,b4,a0,a1,a2,a3,a4,a5,a6⟩:=f3
 go_wp2_with fail
 refine Calls.mono (C3.out _ K3.out) ?_
 rintro e w4 ⟨rfl,K4⟩
 clear C3 K3
 go_wp2
 go_ret
 exact⟨rfl,K4.out⟩
end
end Go.Proofs.YtjpaodepnacimaaGreatDoor
