/- SeenPlays. -/
import Derived.Test.YtdcimnmebgkmjaaGreatDoorZuG34
import Derived.Deep.CutBlock
namespace Go.Proofs.YtdcimnmebgkmjaaGreatDoor
open Go.RowKit Go.Proofs.Fd Go.Proofs.Dk Go.Proofs.Lg
set_option maxRecDepth 20000
theorem bsame_any (a b:Option Addr) (n c c2:Nat) (l:List Bs) (hn:l.length=n) (hnb:n≤1000000) (w:World) (h1:Hid (TxAt w a l)) (h2:Hid (TxAt w b l)) :
  Calls Tryz.prog 15 #[.slice a n c,.slice b n c2] w fun e w'=>e = .returned (.bool true)∧Below w.heap.size w w':=by
 have HN:Hid (l.length=n):=hn
 clear hn
 go_enter Tryz.func15, Tryz.ntmps15
 go_wp2
 go_loopw [5] (fun i wr=>∃k:Nat,k≤n∧i = .int .i64 (k:Int)∧Hid (Below w.heap.size w wr)) (fun i _=>n - (intOf i).toNat)
 case atStart=>exact⟨0,Nat.zero_le _,rfl,Below.refl _ _⟩
 case round =>
  obtain⟨k,hk,rfl,J⟩:=hrel
  by_cases hlt:k < n
  ·have hkl:k < l.length:=by rw[HN.out];exact hlt
   have g1:(k:Int) < (n:Int):=by omega
   obtain⟨b1,o1,rfl,c1⟩:=(h1.out.later J.out) k hkl
   obtain⟨b2,o2,rfl,c2⟩:=(h2.out.later J.out) k hkl
   unfold sv at c1 c2
   obtain⟨T,hT⟩:∃T,st l[k]=T:=⟨_,rfl⟩
   rw[hT] at c1 c2
   have J2:Hid (Below w.heap.size w wr.drew):=J.out.drew
   clear hT J
   go_wp2_with fail
   go_region_with fail
   all_goals
    go_wp2
    go_roundw
    case rel=>exact⟨k+1,by omega,rfl,J2.out⟩
    case measure=>simp[intOf];omega
  ·have g1:¬(k:Int) < (n:Int):=by omega
   go_wp2
   go_ret
   exact⟨rfl,J.out⟩
structure Ac where
 k:Int
 n:Int
 t:ByteArray
 pa:Option Addr
 pn:Nat
 pc:Nat
 ps:List Int
structure Ac.L (w:World) (y:Ac):Prop where
 at_:IntAt w y.pa y.ps
 len:y.ps.length=y.pn
def ActAt (w:World) (a:Option Addr) (L:List Ac):Prop:=∀i (hi:i < L.length),∃b o,a=some ⟨b,o,none⟩∧w.cell? ⟨b,o+i*4,none⟩=some (.int .i64 L[i].k)∧w.cell? ⟨b,o+i*4+1,none⟩=some (.int .i64 L[i].n)∧w.cell? ⟨b,o+i*4+2,none⟩=some (.string L[i].t)∧w.cell? ⟨b,o+i*4+3,none⟩=some (.slice L[i].pa L[i].pn L[i].pc)
theorem ActAt.later {W w1:World} {a:Option Addr} {L:List Ac} (h:ActAt W a L) (hb:Below W.heap.size W w1):ActAt w1 a L:=fun i hi=>by
 obtain⟨b,o,e,h0,h1,h2,h3⟩:=h i hi
 exact⟨b,o,e,cell_later hb h0,cell_later hb h1,cell_later hb h2,cell_later hb h3⟩
theorem Bo.below {w wr:World} {B:Nat} {most:Int} {p d:Nat} {s:St} {o:Option (Lo×Ey)} (h:Bo w wr B most p d s o):Below w.heap.size w wr:=by
 obtain⟨F,G,ps,pk,k⟩:=h.sd
 exact k.dl.below
theorem Bo.looks {w wr:World} {B:Nat} {most:Int} {p d:Nat} {s:St} {o:Option (Lo×Ey)} (h:Bo w wr B most p d s o):wr.cell? ⟨B,2,none⟩=some (.pointer (some ⟨d,0,none⟩))∧wr.cell? ⟨d,3,none⟩=some (.bool s.down)∧wr.cell? ⟨d,4,none⟩=some (.int .i64 (s.n:Int)):=by
 obtain⟨F,G,ps,pk,k⟩:=h.sd
 obtain⟨-,sg,sc,v,-,hr⟩:=k.at_
 exact⟨k.bk.c 2 _ rfl,hr.c3,hr.c4⟩
theorem Bo.nils {w wr:World} {B:Nat} {most:Int} {p d:Nat} {s:St} (h:Bo w wr B most p d s none):wr.cell? ⟨B,3,none⟩=some (.pointer none):=by
 obtain⟨F,G,k⟩:=h
 exact k.bk.c 3 _ rfl
theorem Bo.sets {w wr:World} {B:Nat} {most:Int} {p d:Nat} {s:St} {x:Lo} {y:Ey} (h:Bo w wr B most p d s (some (x,y))) (hy:Gd y):∃q1 b2,wr.cell? ⟨B,3,none⟩=some (.pointer (some q1))∧wr.cell? ⟨B,4,none⟩=some (.pointer (some ⟨b2,0,none⟩))∧wr.cell? ⟨b2,2,none⟩=some (.int .i64 (y.1:Int))
  ∧ (∀W,Below wr.heap.size wr W→Calls Tryz.prog 14 #[.pointer (some q1)] W fun e w1=>e = .returned (.int .i64 (y.1:Int))∧w1=W)
  ∧ (∀W,Below wr.heap.size wr W→Calls Tryz.prog 16 #[.pointer (some q1)] W fun e w1=>∃a c,e = .returned (.slice a (y.2.1++y.2.2).length c)∧TxAt w1 a (y.2.1++y.2.2)∧Below W.heap.size W w1)
  ∧ (∀W,Below wr.heap.size wr W→Calls Tryz.prog 17 #[.pointer (some ⟨b2,0,none⟩)] W fun e w1=>∃a c,e = .returned (.slice a (y.2.1++y.2.2).length c)∧TxAt w1 a (y.2.1++y.2.2)∧Below W.heap.size W w1):=by
 have h0:=h
 obtain⟨F,q,v,b,va,vh,G,q',v',b',u,k⟩:=h
 have bx:∀W,Below wr.heap.size wr W→Bx2 w W (UU (FP F q v b va vh) (FZ G q' v' b' u) B) W B most p d s (some (x,y)) s (some (x,y)) (some ⟨b,0,none⟩) (some ⟨b',0,none⟩):=fun W hb=>by
  have kk:Bt w wr B most p d s (some (x,y)) (some ⟨b,0,none⟩) (some ⟨b',0,none⟩) (FP F q v b va vh) (FZ G q' v' b' u):=by
   refine⟨k.bk,⟨q,b,F,v,va,vh,rfl,k.pz,rfl⟩,⟨q',b',G,v',u,rfl,k.rz,rfl⟩,k.fg,k.fb,k.gb,fun z hz => ?_,k.nG,k.nB⟩
   rcases hz with c|c
   ·exact (k.pz.lz.fh c).2
   ·exact (k.pz.ap z c).2
  exact⟨_,_,kk.b2.later hb,Nx.refl _ _,Bf.refl _ _⟩
 exact⟨_,b',k.bk.c 3 _ rfl,k.bk.c 4 _ rfl,k.rz.rs.bk.c 2 _ rfl,fun W hb=>bepochP_any w _ _ W B most p d s s x y _ _ _ (bx W hb),fun W hb=>btagsP_any w _ _ W B most p d s s x y _ _ _ hy (bx W hb),fun W hb=>btagsR_any w _ _ W B most p d s s x y _ _ _ hy (bx W hb)⟩
theorem Bo.reads {w wr:World} {B:Nat} {most:Int} {p d:Nat} {s:St} {o:Option (Lo×Ey)} (h:Bo w wr B most p d s o) (hl:s.l.length≤1000000) (j:Int):∃(T:ByteArray) (z:Int),Calls Tryz.prog 18 #[.pointer (some ⟨p,0,none⟩),.int .i64 j] wr (fun e w'=>e = .returned (.tuple #[.string T,.int .i64 z])∧w'=wr)∧Calls Tryz.prog 19 #[.pointer (some ⟨d,0,none⟩),.int .i64 j] wr (fun e w'=>e = .returned (.tuple #[.string T,.int .i64 z])∧w'=wr):=by
 obtain⟨F,G,ps,pk,k⟩:=h.sd
 exact⟨st (rdV s j),rch s j,readL w wr p F s j k.dl,rread_any d G s j wr k.at_ hl⟩
set_option maxHeartbeats 1000000 in
theorem plays_no (n0:Int) (h:n0 < 1∨1024 < n0) (most:Int) (a:Option Addr) (len cap:Nat) (w:World) (hk:Hid (Kh w)) :
  Calls Tryz.prog 4 #[.int .i64 n0,.int .i64 most,.slice a len cap] w fun e w'=>e = .returned (.bool true)∧Below w.heap.size w w':=by
 have N1:Hid _:=new_no n0 h w
 have N2:Hid _:=rnew_no n0 h w
 have WK:Hid _:=sworks_any w hk
 clear h hk
 go_enter Tryz.func4, Tryz.ntmps4
 go_wp2_with fail
 refine Calls.mono N1.out ?_
 rintro e w1 ⟨rfl,hw⟩
 subst hw
 clear N1
 go_wp2_with fail
 refine Calls.mono N2.out ?_
 rintro e w2 ⟨rfl,hw⟩
 subst hw
 clear N2
 go_wp2_with fail
 refine Calls.mono WK.out ?_
 rintro e w3 ⟨rfl,hb⟩
 have FF:Hid _:=hb
 clear hb WK
 go_wp2
 go_ret
 exact⟨rfl,FF.out⟩
set_option maxHeartbeats 1000000 in
theorem plays_great (n:Nat) (h1:60 < n) (h2:n≤1024) (most:Int) (a:Option Addr) (len cap:Nat) (w:World) (hk:Hid (Kh w)) :
  Calls Tryz.prog 4 #[.int .i64 (n:Int),.int .i64 most,.slice a len cap] w fun e w'=>e = .returned (.bool true)∧Below w.heap.size w w':=by
 have NW:Hid _:=newL w w n (by omega) h2 (Below.refl _ _)
 have RW:Hid (∀w,_):=rnew_any n (by omega) h2
 have WK:Hid (∀W,Below w.heap.size w W→_):=fun W hb=>sworks_any W (hk.out.later hb)
 have g1:(60:Int) < (n:Int):=by omega
 obtain⟨z,hz⟩:∃z:Int,(n:Int)=z:=⟨_,rfl⟩
 rw[hz] at NW RW g1 ⊢
 clear h1 h2 hk hz
 go_enter Tryz.func4, Tryz.ntmps4
 go_wp2_with fail
 refine Calls.mono NW.out ?_
 rintro e w1 ⟨p,F,rfl,-,-,hb1⟩
 have B1:Hid _:=hb1
 clear NW hb1
 go_wp2_with fail
 refine Calls.mono (RW.out _) ?_
 rintro e w2 ⟨d,G,rfl,-,-,hb2⟩
 have B2:Hid (Below w.heap.size w w2):=chain B1.out hb2
 clear RW hb2 B1
 go_wp2_with fail
 refine Calls.mono (WK.out _ B2.out) ?_
 rintro e w3 ⟨rfl,hb⟩
 have FF:Hid (Below w.heap.size w w3):=chain B2.out hb
 clear hb WK B2
 go_wp2
 go_ret
 exact⟨rfl,FF.out⟩
def opk15_0:Oper:={ dst:=some 73,op:=Go.Op.move (Go.Operand.tmp 11),type := 43, pos := "law.go:99", after:=#[],guard:=none }
def opk15_1:Oper:={ dst:=some 74,op:=Go.Op.nilCheck (Go.Operand.tmp 73),type:=0,pos := "law.go:99", after:=#[{ on:=0,ground:=Go.Ground.data }],guard:=none }
def opk15_2:Oper:={ dst:=some 75,op:=Go.Op.fieldAddr 47 (Go.Operand.tmp 74) 3,type:=0,pos := "law.go:99", after:=#[{ on:=1,ground:=Go.Ground.data }],guard:=none }
def opk15_3:Oper:={ dst:=some 76,op:=Go.Op.load 44 (Go.Operand.tmp 75),type := 44, pos := "law.go:99", after:=#[{ on:=2,ground:=Go.Ground.data }],guard:=none }
def opk15_4:Oper:={ dst:=some 77,op:=Go.Op.binOp Go.BinOp.neq 44 (Go.Operand.tmp 76) (Go.Operand.const (Go.Value.pointer none)) 44, type := 4, pos := "law.go:99", after:=#[{ on:=3,ground:=Go.Ground.data }],guard:=none }
def opk15_5:Oper:={ dst:=some 78,op:=Go.Op.move (Go.Operand.tmp 77),type := 4, pos := "law.go:99", after:=#[{ on:=4,ground:=Go.Ground.data }],guard:=none }
def opk15_6:Oper:={ dst:=some 79,op:=Go.Op.move (Go.Operand.tmp 11),type := 43, pos := "law.go:99", after:=#[{ on:=5,ground:=Go.Ground.guard }],guard:=some (5,true) }
def opk15_7:Oper:={ dst:=some 80,op:=Go.Op.nilCheck (Go.Operand.tmp 79),type:=0,pos := "law.go:99", after:=#[{ on:=6,ground:=Go.Ground.data },{ on:=5,ground:=Go.Ground.guard }],guard:=some (5,true) }
def opk15_8:Oper:={ dst:=some 81,op:=Go.Op.fieldAddr 47 (Go.Operand.tmp 80) 4,type:=0,pos := "law.go:99", after:=#[{ on:=7,ground:=Go.Ground.data },{ on:=5,ground:=Go.Ground.guard }],guard:=some (5,true) }
def opk15_9:Oper:={ dst:=some 82,op:=Go.Op.load 45 (Go.Operand.tmp 81),type := 45, pos := "law.go:99", after:=#[{ on:=8,ground:=Go.Ground.data },{ on:=5,ground:=Go.Ground.guard }],guard:=some (5,true) }
def opk15_10:Oper:={ dst:=some 83,op:=Go.Op.binOp Go.BinOp.neq 45 (Go.Operand.tmp 82) (Go.Operand.const (Go.Value.pointer none)) 45, type := 4, pos := "law.go:99", after:=#[{ on:=9,ground:=Go.Ground.data },{ on:=5,ground:=Go.Ground.guard }],guard:=some (5,true) }
def opk15_11:Oper:={ dst:=some 84,op:=Go.Op.pick (Go.Operand.tmp 78) (Go.Operand.tmp 83) (Go.Operand.const (Go.Value.bool false)),type := 4, pos := "law.go:99", after:=#[{ on:=5,ground:=Go.Ground.data },{ on:=10,ground:=Go.Ground.data }],guard:=none }
def opk15_12:Oper:={ dst:=some 85,op:=Go.Op.move (Go.Operand.tmp 84),type := 4, pos := "law.go:99", after:=#[{ on:=11,ground:=Go.Ground.data },{ on:=5,ground:=Go.Ground.chain }],guard:=none }
def opk15_13:Oper:={ dst:=some 86,op:=Go.Op.move (Go.Operand.tmp 11),type := 43, pos := "law.go:99", after:=#[{ on:=12,ground:=Go.Ground.guard }],guard:=some (12,true) }
def opk15_14:Oper:={ dst:=some 87,op:=Go.Op.nilCheck (Go.Operand.tmp 86),type:=0,pos := "law.go:99", after:=#[{ on:=13,ground:=Go.Ground.data },{ on:=12,ground:=Go.Ground.guard }],guard:=some (12,true) }
def opk15_15:Oper:={ dst:=some 88,op:=Go.Op.fieldAddr 47 (Go.Operand.tmp 87) 2,type:=0,pos := "law.go:99", after:=#[{ on:=14,ground:=Go.Ground.data },{ on:=12,ground:=Go.Ground.guard }],guard:=some (12,true) }
def opk15_16:Oper:={ dst:=some 89,op:=Go.Op.load 27 (Go.Operand.tmp 88),type := 27, pos := "law.go:99", after:=#[{ on:=15,ground:=Go.Ground.data },{ on:=12,ground:=Go.Ground.guard }],guard:=some (12,true) }
def opk15_17:Oper:={ dst:=some 90,op:=Go.Op.nilCheck (Go.Operand.tmp 89),type:=0,pos := "law.go:99", after:=#[{ on:=16,ground:=Go.Ground.data },{ on:=12,ground:=Go.Ground.guard }],guard:=some (12,true) }
def opk15_18:Oper:={ dst:=some 91,op:=Go.Op.fieldAddr 53 (Go.Operand.tmp 90) 3,type:=0,pos := "law.go:99", after:=#[{ on:=17,ground:=Go.Ground.data },{ on:=12,ground:=Go.Ground.guard }],guard:=some (12,true) }
def opk15_19:Oper:={ dst:=some 92,op:=Go.Op.load 4 (Go.Operand.tmp 91),type := 4, pos := "law.go:99", after:=#[{ on:=18,ground:=Go.Ground.data },{ on:=12,ground:=Go.Ground.guard }],guard:=some (12,true) }
def opk15_20:Oper:={ dst:=some 93,op:=Go.Op.unOp Go.UnOp.not 4 (Go.Operand.tmp 92),type := 4, pos := "law.go:99", after:=#[{ on:=19,ground:=Go.Ground.data },{ on:=12,ground:=Go.Ground.guard }],guard:=some (12,true) }
def opk15_21:Oper:={ dst:=some 94,op:=Go.Op.pick (Go.Operand.tmp 85) (Go.Operand.tmp 93) (Go.Operand.const (Go.Value.bool false)),type := 4, pos := "law.go:99", after:=#[{ on:=12,ground:=Go.Ground.data },{ on:=20,ground:=Go.Ground.data }],guard:=none }
def opk15_22:Oper:={ dst:=some 95,op:=Go.Op.move (Go.Operand.tmp 94),type := 4, pos := "law.go:99", after:=#[{ on:=21,ground:=Go.Ground.data },{ on:=12,ground:=Go.Ground.chain }],guard:=none }
def opk15_23:Oper:={ dst:=some 96,op:=Go.Op.move (Go.Operand.tmp 11),type := 43, pos := "law.go:99", after:=#[{ on:=22,ground:=Go.Ground.guard }],guard:=some (22,true) }
def opk15_24:Oper:={ dst:=some 97,op:=Go.Op.nilCheck (Go.Operand.tmp 96),type:=0,pos := "law.go:99", after:=#[{ on:=23,ground:=Go.Ground.data },{ on:=22,ground:=Go.Ground.guard }],guard:=some (22,true) }
def opk15_25:Oper:={ dst:=some 98,op:=Go.Op.fieldAddr 47 (Go.Operand.tmp 97) 3,type:=0,pos := "law.go:99", after:=#[{ on:=24,ground:=Go.Ground.data },{ on:=22,ground:=Go.Ground.guard }],guard:=some (22,true) }
def opk15_26:Oper:={ dst:=some 99,op:=Go.Op.load 44 (Go.Operand.tmp 98),type := 44, pos := "law.go:99", after:=#[{ on:=25,ground:=Go.Ground.data },{ on:=22,ground:=Go.Ground.guard }],guard:=some (22,true) }
def opk15_27:Oper:={ dst:=some 100,op:=Go.Op.call { callee:=Go.Callee.value (Go.Operand.func 14),args:=#[Go.Operand.tmp 99],argTypes:=#[44] },type := 3, pos := "law.go:99", after:=#[{ on:=26,ground:=Go.Ground.data },{ on:=22,ground:=Go.Ground.chain },{ on:=22,ground:=Go.Ground.guard }],guard:=some (22,true) }
def opk15_28:Oper:={ dst:=some 101,op:=Go.Op.move (Go.Operand.tmp 11),type := 43, pos := "law.go:99", after:=#[{ on:=22,ground:=Go.Ground.guard }],guard:=some (22,true) }
def opk15_29:Oper:={ dst:=some 102,op:=Go.Op.nilCheck (Go.Operand.tmp 101),type:=0,pos := "law.go:99", after:=#[{ on:=28,ground:=Go.Ground.data },{ on:=22,ground:=Go.Ground.guard }],guard:=some (22,true) }
def opk15_30:Oper:={ dst:=some 103,op:=Go.Op.fieldAddr 47 (Go.Operand.tmp 102) 4,type:=0,pos := "law.go:99", after:=#[{ on:=29,ground:=Go.Ground.data },{ on:=22,ground:=Go.Ground.guard }],guard:=some (22,true) }
def opk15_31:Oper:={ dst:=some 104,op:=Go.Op.load 45 (Go.Operand.tmp 103),type := 45, pos := "law.go:99", after:=#[{ on:=30,ground:=Go.Ground.data },{ on:=22,ground:=Go.Ground.guard }],guard:=some (22,true) }
def opk15_32:Oper:={ dst:=some 105,op:=Go.Op.nilCheck (Go.Operand.tmp 104),type:=0,pos := "law.go:99", after:=#[{ on:=31,ground:=Go.Ground.data },{ on:=22,ground:=Go.Ground.guard }],guard:=some (22,true) }
def opk15_33:Oper:={ dst:=some 106,op:=Go.Op.fieldAddr 57 (Go.Operand.tmp 105) 2,type:=0,pos := "law.go:99", after:=#[{ on:=32,ground:=Go.Ground.data },{ on:=22,ground:=Go.Ground.guard }],guard:=some (22,true) }
def opk15_34:Oper:={ dst:=some 107,op:=Go.Op.load 3 (Go.Operand.tmp 106),type := 3, pos := "law.go:99", after:=#[{ on:=33,ground:=Go.Ground.data },{ on:=22,ground:=Go.Ground.guard }],guard:=some (22,true) }
def opk15_35:Oper:={ dst:=some 108,op:=Go.Op.binOp Go.BinOp.neq 3 (Go.Operand.tmp 100) (Go.Operand.tmp 107) 3, type := 4, pos := "law.go:99", after:=#[{ on:=27,ground:=Go.Ground.data },{ on:=34,ground:=Go.Ground.data },{ on:=22,ground:=Go.Ground.guard }],guard:=some (22,true) }
def opk15_36:Oper:={ dst:=some 109,op:=Go.Op.move (Go.Operand.tmp 108),type := 4, pos := "law.go:99", after:=#[{ on:=35,ground:=Go.Ground.data },{ on:=27,ground:=Go.Ground.chain },{ on:=22,ground:=Go.Ground.guard }],guard:=some (22,true) }
def opk15_37:Oper:={ dst:=some 110,op:=Go.Op.move (Go.Operand.tmp 11),type := 43, pos := "law.go:99", after:=#[{ on:=36,ground:=Go.Ground.guard }],guard:=some (36,false) }
def opk15_38:Oper:={ dst:=some 111,op:=Go.Op.nilCheck (Go.Operand.tmp 110),type:=0,pos := "law.go:99", after:=#[{ on:=37,ground:=Go.Ground.data },{ on:=36,ground:=Go.Ground.guard }],guard:=some (36,false) }
def opk15_39:Oper:={ dst:=some 112,op:=Go.Op.fieldAddr 47 (Go.Operand.tmp 111) 3,type:=0,pos := "law.go:99", after:=#[{ on:=38,ground:=Go.Ground.data },{ on:=36,ground:=Go.Ground.guard }],guard:=some (36,false) }
def opk15_40:Oper:={ dst:=some 113,op:=Go.Op.load 44 (Go.Operand.tmp 112),type := 44, pos := "law.go:99", after:=#[{ on:=39,ground:=Go.Ground.data },{ on:=36,ground:=Go.Ground.guard }],guard:=some (36,false) }
def opk15_41:Oper:={ dst:=some 114,op:=Go.Op.call { callee:=Go.Callee.value (Go.Operand.func 16),args:=#[Go.Operand.tmp 113],argTypes:=#[44] },type := 37, pos := "law.go:99", after:=#[{ on:=40,ground:=Go.Ground.data },{ on:=36,ground:=Go.Ground.chain },{ on:=36,ground:=Go.Ground.guard }],guard:=some (36,false) }
def opk15_42:Oper:={ dst:=some 115,op:=Go.Op.move (Go.Operand.tmp 11),type := 43, pos := "law.go:99", after:=#[{ on:=36,ground:=Go.Ground.guard }],guard:=some (36,false) }
def opk15_43:Oper:={ dst:=some 116,op:=Go.Op.nilCheck (Go.Operand.tmp 115),type:=0,pos := "law.go:99", after:=#[{ on:=42,ground:=Go.Ground.data },{ on:=36,ground:=Go.Ground.guard }],guard:=some (36,false) }
def opk15_44:Oper:={ dst:=some 117,op:=Go.Op.fieldAddr 47 (Go.Operand.tmp 116) 4,type:=0,pos := "law.go:99", after:=#[{ on:=43,ground:=Go.Ground.data },{ on:=36,ground:=Go.Ground.guard }],guard:=some (36,false) }
def opk15_45:Oper:={ dst:=some 118,op:=Go.Op.load 45 (Go.Operand.tmp 117),type := 45, pos := "law.go:99", after:=#[{ on:=44,ground:=Go.Ground.data },{ on:=36,ground:=Go.Ground.guard }],guard:=some (36,false) }
def opk15_46:Oper:={ dst:=some 119,op:=Go.Op.call { callee:=Go.Callee.value (Go.Operand.func 17),args:=#[Go.Operand.tmp 118],argTypes:=#[45] },type := 37, pos := "law.go:99", after:=#[{ on:=45,ground:=Go.Ground.data },{ on:=41,ground:=Go.Ground.chain },{ on:=36,ground:=Go.Ground.guard }],guard:=some (36,false) }
def opk15_47:Oper:={ dst:=some 120,op:=Go.Op.call { callee:=Go.Callee.value (Go.Operand.func 15),args:=#[Go.Operand.tmp 114,Go.Operand.tmp 119],argTypes:=#[37, 37] },type := 4, pos := "law.go:99", after:=#[{ on:=41,ground:=Go.Ground.data },{ on:=46,ground:=Go.Ground.data },{ on:=46,ground:=Go.Ground.chain },{ on:=36,ground:=Go.Ground.guard }],guard:=some (36,false) }
def opk15_48:Oper:={ dst:=some 121,op:=Go.Op.unOp Go.UnOp.not 4 (Go.Operand.tmp 120),type := 4, pos := "law.go:99", after:=#[{ on:=47,ground:=Go.Ground.data },{ on:=36,ground:=Go.Ground.guard }],guard:=some (36,false) }
def opk15_49:Oper:={ dst:=some 122,op:=Go.Op.pick (Go.Operand.tmp 109) (Go.Operand.const (Go.Value.bool true)) (Go.Operand.tmp 121),type := 4, pos := "law.go:99", after:=#[{ on:=36,ground:=Go.Ground.data },{ on:=48,ground:=Go.Ground.data },{ on:=22,ground:=Go.Ground.guard }],guard:=some (22,true) }
def opk15_50:Oper:={ dst:=some 123,op:=Go.Op.pick (Go.Operand.tmp 95) (Go.Operand.tmp 122) (Go.Operand.const (Go.Value.bool false)),type := 4, pos := "law.go:99", after:=#[{ on:=22,ground:=Go.Ground.data },{ on:=49,ground:=Go.Ground.data }],guard:=none }
set_option maxHeartbeats 8000000 in
theorem SeenPlays_walk (n0:Int) (most:Int) (a:Option Addr) (L:List Ac) (len cap:Nat) (hn:L.length=len) (w:World) (hk:Hid (Kh w)) (h:Hid (ActAt w a L)) (hL:Hid (∀x∈L,x.L w)) :
  Calls Tryz.prog 4 #[.int .i64 n0,.int .i64 most,.slice a len cap] w fun e w'=>e = .returned (.bool true)∧Below w.heap.size w w':=by
 by_cases hn0:n0 < 1∨1024 < n0
 ·exact plays_no n0 hn0 most a len cap w hk
 obtain⟨n,rfl⟩:∃n:Nat,n0=(n:Int):=⟨n0.toNat,by omega⟩
 have h1:1≤n:=by omega
 have h2:n≤1024:=by omega
 by_cases h60:60 < n
 ·exact plays_great n h60 h2 most a len cap w hk
 have HN:Hid (L.length=len):=hn
 have H60:Hid (n≤60):=Nat.le_of_not_lt h60
 have NW:Hid _:=newL w w n h1 h2 (Below.refl _ _)
 have RW:Hid (∀w,_):=rnew_any n h1 h2
 have WK:Hid (∀W,Below w.heap.size w W→_):=fun W hb=>sworks_any W (hk.out.later hb)
 have ST:Hid (∀(W:World) (B p d k:Nat) (ak an:Int) (X:ByteArray) (pa:Option Addr) (pn pc:Nat) (l:List Int),k≤30→IntAt w pa l→l.length=pn→Ps w B most p d n k W→Calls Tryz.prog 13 #[.pointer (some ⟨B,0,none⟩),.agg #[.int .i64 ak,.int .i64 an,.string X,.slice pa pn pc]] W fun e w'=>e = .returned (.bool true)∧Ps w B most p d n (k+1) w'):=fun W B p d k ak an X pa pn pc l hk30 hp hpn ⟨s,o,b,iv⟩=>bstep_any w hk.out B most p d n k H60.out hk30 s o ak an X pa pn pc l hp hpn W b iv
 have OP:Hid (∀(W:World) (p d:Nat) (F G:Nat→Prop),Dl w W p F (St.init n)→DAt W d G (St.init n)→(∀z,F z→¬G z)→(∀z,G z→w.heap.size≤z)→Calls Tryz.prog 12 #[.pointer (some ⟨W.heap.size,0,none⟩)] (W.alloc (.cells #[.int .i64 most,.pointer (some ⟨p,0,none⟩),.pointer (some ⟨d,0,none⟩),.pointer none,.pointer none] 47)) fun e w'=>e = .returned (.bool true)∧Ps w W.heap.size most p d n 1 w'):=fun W p d F G k1 k2 k3 k4=>by
  have nb1:=nb W (.cells #[.int .i64 most,.pointer (some ⟨p,0,none⟩),.pointer (some ⟨d,0,none⟩),.pointer none,.pointer none] 47)
  have bk:Blk (W.alloc (.cells #[.int .i64 most,.pointer (some ⟨p,0,none⟩),.pointer (some ⟨d,0,none⟩),.pointer none,.pointer none] 47)) W.heap.size (btc most p d (.pointer none) (.pointer none)):=Blk.new W _ _ (by simp)
  exact bopened_any w _ (UU F G W.heap.size) _ W.heap.size most p d n 0 H60.out (by decide) (St.init n) none none hk.out rfl (hh_init n) (Nat.zero_le _) ⟨F,G,⟨bk,k1.later nb1,k2.later nb1,k3,fun c=>Nat.lt_irrefl _ (k1.at_.lt c),fun c=>Nat.lt_irrefl _ (k2.lt c),k4,k1.below.size⟩,Nx.refl _ _,Bf.refl _ _⟩
 have g60:¬(60:Int) < (n:Int):=by omega
 obtain⟨z0,hz0⟩:∃z:Int,(n:Int)=z:=⟨_,rfl⟩
 rw[hz0] at NW RW g60 ⊢
 have HZ:Hid ((n:Int)=z0):=hz0
 clear hn hn0 h1 h2 h60 hk hz0
 go_enter Tryz.func4, Tryz.ntmps4
 go_wp2_with fail
 refine Calls.mono NW.out ?_
 rintro e w1 ⟨p,F,rfl,I1,-,-⟩
 have J1:Hid _:=I1
 clear NW I1
 go_wp2_with fail
 refine Calls.mono (RW.out _) ?_
 rintro e w2 ⟨d,G,rfl,k1,k2,k3⟩
 have J2:Hid (Dl w w2 p F (St.init n)∧DAt w2 d G (St.init n)∧(∀z,F z→¬G z)∧∀z,G z→w.heap.size≤z):=⟨J1.out.later k3,k1,fun g hg c=>by
  have:=J1.out.at_.lt hg
  have:=k2 g c
  omega,fun g hg=>Nat.le_trans J1.out.below.size (k2 g hg)⟩
 clear J1 k1 k2 k3 RW
 go_wp2_with fail
 refine Calls.mono (WK.out _ J2.out.1.below) ?_
 rintro e w3 ⟨rfl,hb3⟩
 have O3:Hid _:=OP.out w3 p d F G (J2.out.1.later hb3) (J2.out.2.1.later hb3) J2.out.2.2.1 J2.out.2.2.2
 clear J2 hb3 WK OP
 obtain⟨B,hB⟩:∃B,w3.heap.size=B:=⟨_,rfl⟩
 obtain⟨W4,hW4⟩:∃W,w3.alloc (.cells #[.int .i64 most,.pointer (some ⟨p,0,none⟩),.pointer (some ⟨d,0,none⟩),.pointer none,.pointer none] 47)=W:=⟨_,rfl⟩
 rw[hB,hW4] at O3
 go_wp2_with fail
 refine Calls.mono O3.out ?_
 rintro e w5 ⟨rfl,hp5⟩
 have J5:Hid _:=hp5
 clear O3 hp5 hB hW4
 go_wp2_with fail
 go_loopw [12] (fun i wr=>∃k:Nat,k≤len∧k≤30∧i = .int .i64 (k:Int)∧Hid (Ps w B most p d n (k+1) wr)) (fun i wr=>30 - (intOf i).toNat)
 case atStart=>exact⟨0,Nat.zero_le _,Nat.zero_le _,rfl,J5.out⟩
 case round =>
  obtain⟨k,hk,hk2,rfl,I⟩:=hrel
  clear J5
  by_cases hlt:k < len
  ·by_cases h30:k < 30
   ·have g1:(k:Int) < (len:Int):=by omega
    have g2:(k:Int) < 30:=by omega
    have hkl:k < L.length:=by have:=HN.out;omega
    have BW:Below w.heap.size w wr:=by
     obtain⟨s,o,b,-⟩:=I.out
     exact b.below
    obtain⟨b,o,rfl,c0,c1,c2,c3⟩:=(h.out.later BW) k hkl
    have HR:=hL.out L[k] (List.getElem_mem hkl)
    obtain⟨x,hx⟩:∃x,L[k]=x:=⟨_,rfl⟩
    rw[hx] at c0 c1 c2 c3 HR
    obtain⟨xk,xn,xt,pa,pn,pc,ps⟩:=x
    simp only at c0 c1 c2 c3
    have S1:Hid _:=ST.out wr B p d (k+1) xk xn xt pa pn pc ps (by omega) HR.at_ HR.len I.out
    clear hx HR I BW
    go_wp2_with fail
    refine Calls.mono S1.out ?_
    rintro e w6 ⟨rfl,hp6⟩
    have J6:Hid _:=hp6
    clear S1 hp6 c0 c1 c2 c3
    go_upto_region 15 with fail
    go_cut [123] (fun t wx=>t = .bool false∧Hid (Ps w B most p d n (k+1+1) wx))
    case first =>
     obtain⟨s,oo,b6,iv6⟩:=J6.out
     obtain⟨b2,d3,-⟩:=b6.looks
     have PD:Hid (∀W,Below w6.heap.size w6 W→Ps w B most p d n (k+1+1) W):=fun W hb=>⟨s,oo,b6.later hb,iv6⟩
     have FD:Hid (Ps w B most p d n (k+1+1) w6.drew):=PD.out _ (Below.refl _ _).drew
     clear J6 h hL HN ST H60 HZ
     cases oo with
     | none =>
      have b3:=b6.nils
      have s0:w6.drew.cell? ⟨B,3,none⟩=some (.pointer none):=cell_later (Below.refl _ _).drew b3
      clear b2 b3 d3 b6 iv6 PD
      go_wp2_with fail
      refine wp_region_noPanic ?_
      refine wp_region_held_drew (S:=fun w'=>w'.cell? ⟨B,3,none⟩=some (.pointer none)) (by kernel_rfl) (s0) (fun hHeld => ?_)
      refine wpAnyH_take (i:=0) (oi:=opk15_0) (v := ?_) rfl (by kernel_rfl) (by kernel_rfl) (by kernel_rfl) (fun _ _ _ h=>h) (Or.inl ⟨by rfl,?_⟩) (by assumption) ?_
      rotate_left
      ·intro w' hSw
       clear hSw
       unfold opk15_0
       first
       | (go_simp;done)
       | (go_simp;with_reducible rfl)
      simp only[opk15_0,Act.put,List.setIfInBounds_toArray,List.set_cons_zero,List.set_cons_succ]
      refine wpAnyH_take (i:=1) (oi:=opk15_1) (v := ?_) rfl (by kernel_rfl) (by kernel_rfl) (by kernel_rfl) (fun _ _ _ h=>h) (Or.inl ⟨by rfl,?_⟩) (by assumption) ?_
      rotate_left
      ·intro w' hSw
       clear hSw
       unfold opk15_1
       first
       | (go_simp;done)
       | (go_simp;with_reducible rfl)
      simp only[opk15_1,Act.put,List.setIfInBounds_toArray,List.set_cons_zero,List.set_cons_succ]
      refine wpAnyH_take (i:=2) (oi:=opk15_2) (v := ?_) rfl (by kernel_rfl) (by kernel_rfl) (by kernel_rfl) (fun _ _ _ h=>h) (Or.inl ⟨by rfl,?_⟩) (by assumption) ?_
      rotate_left
      ·intro w' hSw
       clear hSw
       unfold opk15_2
       first
       | (go_simp;done)
       | (go_simp;with_reducible rfl)
      simp only[opk15_2,Act.put,List.setIfInBounds_toArray,List.set_cons_zero,List.set_cons_succ]
      refine wpAnyH_take (i:=3) (oi:=opk15_3) (v := ?_) rfl (by kernel_rfl) (by kernel_rfl) (by kernel_rfl) (fun _ _ _ h=>h) (Or.inl ⟨by rfl,?_⟩) (by assumption) ?_
      rotate_left
      ·intro w' hSw
       have f3:=hSw;clear hSw
       unfold opk15_3
       first
       | (go_simp;done)
       | (go_simp;with_reducible rfl)
      simp only[opk15_3,Act.put,List.setIfInBounds_toArray,List.set_cons_zero,List.set_cons_succ]
      refine wpAnyH_take (i:=4) (oi:=opk15_4) (v := ?_) rfl (by kernel_rfl) (by kernel_rfl) (by kernel_rfl) (fun _ _ _ h=>h) (Or.inl ⟨by rfl,?_⟩) (by assumption) ?_
      rotate_left
      ·intro w' hSw
       clear hSw
       unfold opk15_4
       first
       | (go_simp;done)
       | (go_simp;with_reducible rfl)
      simp only[opk15_4,Act.put,List.setIfInBounds_toArray,List.set_cons_zero,List.set_cons_succ]
      refine wpAnyH_take (i:=5) (oi:=opk15_5) (v := ?_) rfl (by kernel_rfl) (by kernel_rfl) (by kernel_rfl) (fun _ _ _ h=>h) (Or.inl ⟨by rfl,?_⟩) (by assumption) ?_
      rotate_left
      ·intro w' hSw
       clear hSw
       unfold opk15_5
       first
       | (go_simp;done)
       | (go_simp;with_reducible rfl)
      simp only[opk15_5,Act.put,List.setIfInBounds_toArray,List.set_cons_zero,List.set_cons_succ]
      refine wpAnyH_take (i:=6) (oi:=opk15_6) (v:=undef) rfl (by kernel_rfl) (by kernel_rfl) (by kernel_rfl) (fun _ _ _ h=>h) (Or.inr ⟨by rfl,rfl⟩) (by assumption) ?_
      simp only[opk15_6,Act.put,List.setIfInBounds_toArray,List.set_cons_zero,List.set_cons_succ]
      refine wpAnyH_take (i:=7) (oi:=opk15_7) (v:=undef) rfl (by kernel_rfl) (by kernel_rfl) (by kernel_rfl) (fun _ _ _ h=>h) (Or.inr ⟨by rfl,rfl⟩) (by assumption) ?_
      simp only[opk15_7,Act.put,List.setIfInBounds_toArray,List.set_cons_zero,List.set_cons_succ]
      refine wpAnyH_take (i:=8) (oi:=opk15_8) (v:=undef) rfl (by kernel_rfl) (by kernel_rfl) (by kernel_rfl) (fun _ _ _ h=>h) (Or.inr ⟨by rfl,rfl⟩) (by assumption) ?_
      simp only[opk15_8,Act.put,List.setIfInBounds_toArray,List.set_cons_zero,List.set_cons_succ]
      refine wpAnyH_take (i:=9) (oi:=opk15_9) (v:=undef) rfl (by kernel_rfl) (by kernel_rfl) (by kernel_rfl) (fun _ _ _ h=>h) (Or.inr ⟨by rfl,rfl⟩) (by assumption) ?_
      simp only[opk15_9,Act.put,List.setIfInBounds_toArray,List.set_cons_zero,List.set_cons_succ]
      refine wpAnyH_take (i:=10) (oi:=opk15_10) (v:=undef) rfl (by kernel_rfl) (by kernel_rfl) (by kernel_rfl) (fun _ _ _ h=>h) (Or.inr ⟨by rfl,rfl⟩) (by assumption) ?_
      simp only[opk15_10,Act.put,List.setIfInBounds_toArray,List.set_cons_zero,List.set_cons_succ]
      refine wpAnyH_take (i:=11) (oi:=opk15_11) (v := ?_) rfl (by kernel_rfl) (by kernel_rfl) (by kernel_rfl) (fun _ _ _ h=>h) (Or.inl ⟨by rfl,?_⟩) (by assumption) ?_
      rotate_left
      ·intro w' hSw
       clear hSw
       unfold opk15_11
       first
       | (go_simp;done)
       | (go_simp;with_reducible rfl)
      simp only[opk15_11,Act.put,List.setIfInBounds_toArray,List.set_cons_zero,List.set_cons_succ]
      refine wpAnyH_take (i:=12) (oi:=opk15_12) (v := ?_) rfl (by kernel_rfl) (by kernel_rfl) (by kernel_rfl) (fun _ _ _ h=>h) (Or.inl ⟨by rfl,?_⟩) (by assumption) ?_
      rotate_left
      ·intro w' hSw
       clear hSw
       unfold opk15_12
       first
       | (go_simp;done)
       | (go_simp;with_reducible rfl)
      simp only[opk15_12,Act.put,List.setIfInBounds_toArray,List.set_cons_zero,List.set_cons_succ]
      refine wpAnyH_take (i:=13) (oi:=opk15_13) (v:=undef) rfl (by kernel_rfl) (by kernel_rfl) (by kernel_rfl) (fun _ _ _ h=>h) (Or.inr ⟨by rfl,rfl⟩) (by assumption) ?_
      simp only[opk15_13,Act.put,List.setIfInBounds_toArray,List.set_cons_zero,List.set_cons_succ]
      refine wpAnyH_take (i:=14) (oi:=opk15_14) (v:=undef) rfl (by kernel_rfl) (by kernel_rfl) (by kernel_rfl) (fun _ _ _ h=>h) (Or.inr ⟨by rfl,rfl⟩) (by assumption) ?_
      simp only[opk15_14,Act.put,List.setIfInBounds_toArray,List.set_cons_zero,List.set_cons_succ]
      refine wpAnyH_take (i:=15) (oi:=opk15_15) (v:=undef) rfl (by kernel_rfl) (by kernel_rfl) (by kernel_rfl) (fun _ _ _ h=>h) (Or.inr ⟨by rfl,rfl⟩) (by assumption) ?_
      simp only[opk15_15,Act.put,List.setIfInBounds_toArray,List.set_cons_zero,List.set_cons_succ]
      refine wpAnyH_take (i:=16) (oi:=opk15_16) (v:=undef) rfl (by kernel_rfl) (by kernel_rfl) (by kernel_rfl) (fun _ _ _ h=>h) (Or.inr ⟨by rfl,rfl⟩) (by assumption) ?_
      simp only[opk15_16,Act.put,List.setIfInBounds_toArray,List.set_cons_zero,List.set_cons_succ]
      refine wpAnyH_take (i:=17) (oi:=opk15_17) (v:=undef) rfl (by kernel_rfl) (by kernel_rfl) (by kernel_rfl) (fun _ _ _ h=>h) (Or.inr ⟨by rfl,rfl⟩) (by assumption) ?_
      simp only[opk15_17,Act.put,List.setIfInBounds_toArray,List.set_cons_zero,List.set_cons_succ]
      refine wpAnyH_take (i:=18) (oi:=opk15_18) (v:=undef) rfl (by kernel_rfl) (by kernel_rfl) (by kernel_rfl) (fun _ _ _ h=>h) (Or.inr ⟨by rfl,rfl⟩) (by assumption) ?_
      simp only[opk15_18,Act.put,List.setIfInBounds_toArray,List.set_cons_zero,List.set_cons_succ]
      refine wpAnyH_take (i:=19) (oi:=opk15_19) (v:=undef) rfl (by kernel_rfl) (by kernel_rfl) (by kernel_rfl) (fun _ _ _ h=>h) (Or.inr ⟨by rfl,rfl⟩) (by assumption) ?_
      simp only[opk15_19,Act.put,List.setIfInBounds_toArray,List.set_cons_zero,List.set_cons_succ]
      refine wpAnyH_take (i:=20) (oi:=opk15_20) (v:=undef) rfl (by kernel_rfl) (by kernel_rfl) (by kernel_rfl) (fun _ _ _ h=>h) (Or.inr ⟨by rfl,rfl⟩) (by assumption) ?_
      simp only[opk15_20,Act.put,List.setIfInBounds_toArray,List.set_cons_zero,List.set_cons_succ]
      refine wpAnyH_take (i:=21) (oi:=opk15_21) (v := ?_) rfl (by kernel_rfl) (by kernel_rfl) (by kernel_rfl) (fun _ _ _ h=>h) (Or.inl ⟨by rfl,?_⟩) (by assumption) ?_
      rotate_left
      ·intro w' hSw
       clear hSw
       unfold opk15_21
       first
       | (go_simp;done)
       | (go_simp;with_reducible rfl)
      simp only[opk15_21,Act.put,List.setIfInBounds_toArray,List.set_cons_zero,List.set_cons_succ]
      refine wpAnyH_take (i:=22) (oi:=opk15_22) (v := ?_) rfl (by kernel_rfl) (by kernel_rfl) (by kernel_rfl) (fun _ _ _ h=>h) (Or.inl ⟨by rfl,?_⟩) (by assumption) ?_
      rotate_left
      ·intro w' hSw
       clear hSw
       unfold opk15_22
       first
       | (go_simp;done)
       | (go_simp;with_reducible rfl)
      simp only[opk15_22,Act.put,List.setIfInBounds_toArray,List.set_cons_zero,List.set_cons_succ]
      refine wpAnyH_take (i:=23) (oi:=opk15_23) (v:=undef) rfl (by kernel_rfl) (by kernel_rfl) (by kernel_rfl) (fun _ _ _ h=>h) (Or.inr ⟨by rfl,rfl⟩) (by assumption) ?_
      simp only[opk15_23,Act.put,List.setIfInBounds_toArray,List.set_cons_zero,List.set_cons_succ]
      refine wpAnyH_take (i:=24) (oi:=opk15_24) (v:=undef) rfl (by kernel_rfl) (by kernel_rfl) (by kernel_rfl) (fun _ _ _ h=>h) (Or.inr ⟨by rfl,rfl⟩) (by assumption) ?_
      simp only[opk15_24,Act.put,List.setIfInBounds_toArray,List.set_cons_zero,List.set_cons_succ]
      refine wpAnyH_take (i:=25) (oi:=opk15_25) (v:=undef) rfl (by kernel_rfl) (by kernel_rfl) (by kernel_rfl) (fun _ _ _ h=>h) (Or.inr ⟨by rfl,rfl⟩) (by assumption) ?_
      simp only[opk15_25,Act.put,List.setIfInBounds_toArray,List.set_cons_zero,List.set_cons_succ]
      refine wpAnyH_take (i:=26) (oi:=opk15_26) (v:=undef) rfl (by kernel_rfl) (by kernel_rfl) (by kernel_rfl) (fun _ _ _ h=>h) (Or.inr ⟨by rfl,rfl⟩) (by assumption) ?_
      simp only[opk15_26,Act.put,List.setIfInBounds_toArray,List.set_cons_zero,List.set_cons_succ]
      refine wpAnyH_take (i:=27) (oi:=opk15_27) (v:=undef) rfl (by kernel_rfl) (by kernel_rfl) (by kernel_rfl) (fun _ _ _ h=>h) (Or.inr ⟨by rfl,rfl⟩) (by assumption) ?_
      simp only[opk15_27,Act.put,List.setIfInBounds_toArray,List.set_cons_zero,List.set_cons_succ]
      refine wpAnyH_take (i:=28) (oi:=opk15_28) (v:=undef) rfl (by kernel_rfl) (by kernel_rfl) (by kernel_rfl) (fun _ _ _ h=>h) (Or.inr ⟨by rfl,rfl⟩) (by assumption) ?_
      simp only[opk15_28,Act.put,List.setIfInBounds_toArray,List.set_cons_zero,List.set_cons_succ]
      refine wpAnyH_take (i:=29) (oi:=opk15_29) (v:=undef) rfl (by kernel_rfl) (by kernel_rfl) (by kernel_rfl) (fun _ _ _ h=>h) (Or.inr ⟨by rfl,rfl⟩) (by assumption) ?_
      simp only[opk15_29,Act.put,List.setIfInBounds_toArray,List.set_cons_zero,List.set_cons_succ]
      refine wpAnyH_take (i:=30) (oi:=opk15_30) (v:=undef) rfl (by kernel_rfl) (by kernel_rfl) (by kernel_rfl) (fun _ _ _ h=>h) (Or.inr ⟨by rfl,rfl⟩) (by assumption) ?_
      simp only[opk15_30,Act.put,List.setIfInBounds_toArray,List.set_cons_zero,List.set_cons_succ]
      refine wpAnyH_take (i:=31) (oi:=opk15_31) (v:=undef) rfl (by kernel_rfl) (by kernel_rfl) (by kernel_rfl) (fun _ _ _ h=>h) (Or.inr ⟨by rfl,rfl⟩) (by assumption) ?_
      simp only[opk15_31,Act.put,List.setIfInBounds_toArray,List.set_cons_zero,List.set_cons_succ]
      refine wpAnyH_take (i:=32) (oi:=opk15_32) (v:=undef) rfl (by kernel_rfl) (by kernel_rfl) (by kernel_rfl) (fun _ _ _ h=>h) (Or.inr ⟨by rfl,rfl⟩) (by assumption) ?_
      simp only[opk15_32,Act.put,List.setIfInBounds_toArray,List.set_cons_zero,List.set_cons_succ]
      refine wpAnyH_take (i:=33) (oi:=opk15_33) (v:=undef) rfl (by kernel_rfl) (by kernel_rfl) (by kernel_rfl) (fun _ _ _ h=>h) (Or.inr ⟨by rfl,rfl⟩) (by assumption) ?_
      simp only[opk15_33,Act.put,List.setIfInBounds_toArray,List.set_cons_zero,List.set_cons_succ]
      refine wpAnyH_take (i:=34) (oi:=opk15_34) (v:=undef) rfl (by kernel_rfl) (by kernel_rfl) (by kernel_rfl) (fun _ _ _ h=>h) (Or.inr ⟨by rfl,rfl⟩) (by assumption) ?_
      simp only[opk15_34,Act.put,List.setIfInBounds_toArray,List.set_cons_zero,List.set_cons_succ]
      refine wpAnyH_take (i:=35) (oi:=opk15_35) (v:=undef) rfl (by kernel_rfl) (by kernel_rfl) (by kernel_rfl) (fun _ _ _ h=>h) (Or.inr ⟨by rfl,rfl⟩) (by assumption) ?_
      simp only[opk15_35,Act.put,List.setIfInBounds_toArray,List.set_cons_zero,List.set_cons_succ]
      refine wpAnyH_take (i:=36) (oi:=opk15_36) (v:=undef) rfl (by kernel_rfl) (by kernel_rfl) (by kernel_rfl) (fun _ _ _ h=>h) (Or.inr ⟨by rfl,rfl⟩) (by assumption) ?_
      simp only[opk15_36,Act.put,List.setIfInBounds_toArray,List.set_cons_zero,List.set_cons_succ]
      refine wpAnyH_take (i:=37) (oi:=opk15_37) (v:=undef) rfl (by kernel_rfl) (by kernel_rfl) (by kernel_rfl) (fun _ _ _ h=>h) (Or.inr ⟨by rfl,rfl⟩) (by assumption) ?_
      simp only[opk15_37,Act.put,List.setIfInBounds_toArray,List.set_cons_zero,List.set_cons_succ]
      refine wpAnyH_take (i:=38) (oi:=opk15_38) (v:=undef) rfl (by kernel_rfl) (by kernel_rfl) (by kernel_rfl) (fun _ _ _ h=>h) (Or.inr ⟨by rfl,rfl⟩) (by assumption) ?_
      simp only[opk15_38,Act.put,List.setIfInBounds_toArray,List.set_cons_zero,List.set_cons_succ]
      refine wpAnyH_take (i:=39) (oi:=opk15_39) (v:=undef) rfl (by kernel_rfl) (by kernel_rfl) (by kernel_rfl) (fun _ _ _ h=>h) (Or.inr ⟨by rfl,rfl⟩) (by assumption) ?_
      simp only[opk15_39,Act.put,List.setIfInBounds_toArray,List.set_cons_zero,List.set_cons_succ]
      refine wpAnyH_take (i:=40) (oi:=opk15_40) (v:=undef) rfl (by kernel_rfl) (by kernel_rfl) (by kernel_rfl) (fun _ _ _ h=>h) (Or.inr ⟨by rfl,rfl⟩) (by assumption) ?_
      simp only[opk15_40,Act.put,List.setIfInBounds_toArray,List.set_cons_zero,List.set_cons_succ]
      refine wpAnyH_take (i:=41) (oi:=opk15_41) (v:=undef) rfl (by kernel_rfl) (by kernel_rfl) (by kernel_rfl) (fun _ _ _ h=>h) (Or.inr ⟨by rfl,rfl⟩) (by assumption) ?_
      simp only[opk15_41,Act.put,List.setIfInBounds_toArray,List.set_cons_zero,List.set_cons_succ]
      refine wpAnyH_take (i:=42) (oi:=opk15_42) (v:=undef) rfl (by kernel_rfl) (by kernel_rfl) (by kernel_rfl) (fun _ _ _ h=>h) (Or.inr ⟨by rfl,rfl⟩) (by assumption) ?_
      simp only[opk15_42,Act.put,List.setIfInBounds_toArray,List.set_cons_zero,List.set_cons_succ]
      refine wpAnyH_take (i:=43) (oi:=opk15_43) (v:=undef) rfl (by kernel_rfl) (by kernel_rfl) (by kernel_rfl) (fun _ _ _ h=>h) (Or.inr ⟨by rfl,rfl⟩) (by assumption) ?_
      simp only[opk15_43,Act.put,List.setIfInBounds_toArray,List.set_cons_zero,List.set_cons_succ]
      refine wpAnyH_take (i:=44) (oi:=opk15_44) (v:=undef) rfl (by kernel_rfl) (by kernel_rfl) (by kernel_rfl) (fun _ _ _ h=>h) (Or.inr ⟨by rfl,rfl⟩) (by assumption) ?_
      simp only[opk15_44,Act.put,List.setIfInBounds_toArray,List.set_cons_zero,List.set_cons_succ]
      refine wpAnyH_take (i:=45) (oi:=opk15_45) (v:=undef) rfl (by kernel_rfl) (by kernel_rfl) (by kernel_rfl) (fun _ _ _ h=>h) (Or.inr ⟨by rfl,rfl⟩) (by assumption) ?_
      simp only[opk15_45,Act.put,List.setIfInBounds_toArray,List.set_cons_zero,List.set_cons_succ]
      refine wpAnyH_take (i:=46) (oi:=opk15_46) (v:=undef) rfl (by kernel_rfl) (by kernel_rfl) (by kernel_rfl) (fun _ _ _ h=>h) (Or.inr ⟨by rfl,rfl⟩) (by assumption) ?_
      simp only[opk15_46,Act.put,List.setIfInBounds_toArray,List.set_cons_zero,List.set_cons_succ]
      refine wpAnyH_take (i:=47) (oi:=opk15_47) (v:=undef) rfl (by kernel_rfl) (by kernel_rfl) (by kernel_rfl) (fun _ _ _ h=>h) (Or.inr ⟨by rfl,rfl⟩) (by assumption) ?_
      simp only[opk15_47,Act.put,List.setIfInBounds_toArray,List.set_cons_zero,List.set_cons_succ]
      refine wpAnyH_take (i:=48) (oi:=opk15_48) (v:=undef) rfl (by kernel_rfl) (by kernel_rfl) (by kernel_rfl) (fun _ _ _ h=>h) (Or.inr ⟨by rfl,rfl⟩) (by assumption) ?_
      simp only[opk15_48,Act.put,List.setIfInBounds_toArray,List.set_cons_zero,List.set_cons_succ]
      refine wpAnyH_take (i:=49) (oi:=opk15_49) (v:=undef) rfl (by kernel_rfl) (by kernel_rfl) (by kernel_rfl) (fun _ _ _ h=>h) (Or.inr ⟨by rfl,rfl⟩) (by assumption) ?_
      simp only[opk15_49,Act.put,List.setIfInBounds_toArray,List.set_cons_zero,List.set_cons_succ]
      refine wpAnyH_take (i:=50) (oi:=opk15_50) (v := ?_) rfl (by kernel_rfl) (by kernel_rfl) (by kernel_rfl) (fun _ _ _ h=>h) (Or.inl ⟨by rfl,?_⟩) (by assumption) ?_
      rotate_left
      ·intro w' hSw
       clear hSw
       unfold opk15_50
       first
       | (go_simp;done)
       | (go_simp;with_reducible rfl)
      simp only[opk15_50,Act.put,List.setIfInBounds_toArray,List.set_cons_zero,List.set_cons_succ]
      refine wpAnyH_done (by kernel_rfl) ?_ _
      refine NoPanic.normal ?_
      go_wp2
      go_meet
      case rel=>exact⟨rfl,FD.out⟩
     | some xy =>
      obtain⟨x,y⟩:=xy
      have gy:=(iv6.g x y rfl).1
      have gd:Gd y:=gy.gd (by omega)
      obtain⟨q1,q2,b3,b4,e2,EP,TP,TR⟩:=b6.sets gd
      cases hdn:s.down with
      | true =>
       rw[hdn] at d3
       have s0:w6.drew.cell? ⟨B,2,none⟩=some (.pointer (some ⟨d,0,none⟩))∧w6.drew.cell? ⟨B,3,none⟩=some (.pointer (some q1))∧w6.drew.cell? ⟨B,4,none⟩=some (.pointer (some ⟨q2,0,none⟩))∧w6.drew.cell? ⟨d,3,none⟩=some (.bool true):=⟨cell_later (Below.refl _ _).drew b2,cell_later (Below.refl _ _).drew b3,cell_later (Below.refl _ _).drew b4,cell_later (Below.refl _ _).drew d3⟩
       clear b2 b3 b4 d3 b6 iv6 PD EP TP TR e2 hdn gy gd
       go_wp2_with fail
       refine wp_region_noPanic ?_
       refine wp_region_held_drew (S:=fun w'=>w'.cell? ⟨B,2,none⟩=some (.pointer (some ⟨d,0,none⟩))∧w'.cell? ⟨B,3,none⟩=some (.pointer (some q1))∧w'.cell? ⟨B,4,none⟩=some (.pointer (some ⟨q2,0,none⟩))∧w'.cell? ⟨d,3,none⟩=some (.bool true)) (by kernel_rfl) (s0) (fun hHeld => ?_)
       refine wpAnyH_take (i:=0) (oi:=opk15_0) (v := ?_) rfl (by kernel_rfl) (by kernel_rfl) (by kernel_rfl) (fun _ _ _ h=>h) (Or.inl ⟨by rfl,?_⟩) (by assumption) ?_
       rotate_left
       ·intro w' hSw
        clear hSw
        unfold opk15_0
        first
        | (go_simp;done)
        | (go_simp;with_reducible rfl)
       simp only[opk15_0,Act.put,List.setIfInBounds_toArray,List.set_cons_zero,List.set_cons_succ]
       refine wpAnyH_take (i:=1) (oi:=opk15_1) (v := ?_) rfl (by kernel_rfl) (by kernel_rfl) (by kernel_rfl) (fun _ _ _ h=>h) (Or.inl ⟨by rfl,?_⟩) (by assumption) ?_
       rotate_left
       ·intro w' hSw
        clear hSw
        unfold opk15_1
        first
        | (go_simp;done)
        | (go_simp;with_reducible rfl)
       simp only[opk15_1,Act.put,List.setIfInBounds_toArray,List.set_cons_zero,List.set_cons_succ]
       refine wpAnyH_take (i:=2) (oi:=opk15_2) (v := ?_) rfl (by kernel_rfl) (by kernel_rfl) (by kernel_rfl) (fun _ _ _ h=>h) (Or.inl ⟨by rfl,?_⟩) (by assumption) ?_
       rotate_left
       ·intro w' hSw
        clear hSw
        unfold opk15_2
        first
        | (go_simp;done)
        | (go_simp;with_reducible rfl)
       simp only[opk15_2,Act.put,List.setIfInBounds_toArray,List.set_cons_zero,List.set_cons_succ]
       refine wpAnyH_take (i:=3) (oi:=opk15_3) (v := ?_) rfl (by kernel_rfl) (by kernel_rfl) (by kernel_rfl) (fun _ _ _ h=>h) (Or.inl ⟨by rfl,?_⟩) (by assumption) ?_
       rotate_left
       ·intro w' hSw
        obtain⟨f2,f3,f4,f5⟩:=hSw
        unfold opk15_3
        first
        | (go_simp;done)
        | (go_simp;with_reducible rfl)
       simp only[opk15_3,Act.put,List.setIfInBounds_toArray,List.set_cons_zero,List.set_cons_succ]
       refine wpAnyH_take (i:=4) (oi:=opk15_4) (v := ?_) rfl (by kernel_rfl) (by kernel_rfl) (by kernel_rfl) (fun _ _ _ h=>h) (Or.inl ⟨by rfl,?_⟩) (by assumption) ?_
       rotate_left
       ·intro w' hSw
        clear hSw
        unfold opk15_4
        first
        | (go_simp;done)
        | (go_simp;with_reducible rfl)
       simp only[opk15_4,Act.put,List.setIfInBounds_toArray,List.set_cons_zero,List.set_cons_succ]
       refine wpAnyH_take (i:=5) (oi:=opk15_5) (v := ?_) rfl (by kernel_rfl) (by kernel_rfl) (by kernel_rfl) (fun _ _ _ h=>h) (Or.inl ⟨by rfl,?_⟩) (by assumption) ?_
       rotate_left
       ·intro w' hSw
        clear hSw
        unfold opk15_5
        first
        | (go_simp;done)
        | (go_simp;with_reducible rfl)
       simp only[opk15_5,Act.put,List.setIfInBounds_toArray,List.set_cons_zero,List.set_cons_succ]
       refine wpAnyH_take (i:=6) (oi:=opk15_6) (v := ?_) rfl (by kernel_rfl) (by kernel_rfl) (by kernel_rfl) (fun _ _ _ h=>h) (Or.inl ⟨by rfl,?_⟩) (by assumption) ?_
       rotate_left
       ·intro w' hSw
        clear hSw
        unfold opk15_6
        first
        | (go_simp;done)
        | (go_simp;with_reducible rfl)
       simp only[opk15_6,Act.put,List.setIfInBounds_toArray,List.set_cons_zero,List.set_cons_succ]
       refine wpAnyH_take (i:=7) (oi:=opk15_7) (v := ?_) rfl (by kernel_rfl) (by kernel_rfl) (by kernel_rfl) (fun _ _ _ h=>h) (Or.inl ⟨by rfl,?_⟩) (by assumption) ?_
       rotate_left
       ·intro w' hSw
        clear hSw
        unfold opk15_7
        first
        | (go_simp;done)
        | (go_simp;with_reducible rfl)
       simp only[opk15_7,Act.put,List.setIfInBounds_toArray,List.set_cons_zero,List.set_cons_succ]
       refine wpAnyH_take (i:=8) (oi:=opk15_8) (v := ?_) rfl (by kernel_rfl) (by kernel_rfl) (by kernel_rfl) (fun _ _ _ h=>h) (Or.inl ⟨by rfl,?_⟩) (by assumption) ?_
       rotate_left
       ·intro w' hSw
        clear hSw
        unfold opk15_8
        first
        | (go_simp;done)
        | (go_simp;with_reducible rfl)
       simp only[opk15_8,Act.put,List.setIfInBounds_toArray,List.set_cons_zero,List.set_cons_succ]
       refine wpAnyH_take (i:=9) (oi:=opk15_9) (v := ?_) rfl (by kernel_rfl) (by kernel_rfl) (by kernel_rfl) (fun _ _ _ h=>h) (Or.inl ⟨by rfl,?_⟩) (by assumption) ?_
       rotate_left
       ·intro w' hSw
        obtain⟨f2,f3,f4,f5⟩:=hSw
        unfold opk15_9
        first
        | (go_simp;done)
        | (go_simp;with_reducible rfl)
       simp only[opk15_9,Act.put,List.setIfInBounds_toArray,List.set_cons_zero,List.set_cons_succ]
       refine wpAnyH_take (i:=10) (oi:=opk15_10) (v := ?_) rfl (by kernel_rfl) (by kernel_rfl) (by kernel_rfl) (fun _ _ _ h=>h) (Or.inl ⟨by rfl,?_⟩) (by assumption) ?_
       rotate_left
       ·intro w' hSw
        clear hSw
        unfold opk15_10
        first
        | (go_simp;done)
        | (go_simp;with_reducible rfl)
       simp only[opk15_10,Act.put,List.setIfInBounds_toArray,List.set_cons_zero,List.set_cons_succ]
       refine wpAnyH_take (i:=11) (oi:=opk15_11) (v := ?_) rfl (by kernel_rfl) (by kernel_rfl) (by kernel_rfl) (fun _ _ _ h=>h) (Or.inl ⟨by rfl,?_⟩) (by assumption) ?_
       rotate_left
       ·intro w' hSw
        clear hSw
        unfold opk15_11
        first
        | (go_simp;done)
        | (go_simp;with_reducible rfl)
       simp only[opk15_11,Act.put,List.setIfInBounds_toArray,List.set_cons_zero,List.set_cons_succ]
       refine wpAnyH_take (i:=12) (oi:=opk15_12) (v := ?_) rfl (by kernel_rfl) (by kernel_rfl) (by kernel_rfl) (fun _ _ _ h=>h) (Or.inl ⟨by rfl,?_⟩) (by assumption) ?_
       rotate_left
       ·intro w' hSw
        clear hSw
        unfold opk15_12
        first
        | (go_simp;done)
        | (go_simp;with_reducible rfl)
       simp only[opk15_12,Act.put,List.setIfInBounds_toArray,List.set_cons_zero,List.set_cons_succ]
       refine wpAnyH_take (i:=13) (oi:=opk15_13) (v := ?_) rfl (by kernel_rfl) (by kernel_rfl) (by kernel_rfl) (fun _ _ _ h=>h) (Or.inl ⟨by rfl,?_⟩) (by assumption) ?_
       rotate_left
       ·intro w' hSw
        clear hSw
        unfold opk15_13
        first
        | (go_simp;done)
        | (go_simp;with_reducible rfl)
       simp only[opk15_13,Act.put,List.setIfInBounds_toArray,List.set_cons_zero,List.set_cons_succ]
       refine wpAnyH_take (i:=14) (oi:=opk15_14) (v := ?_) rfl (by kernel_rfl) (by kernel_rfl) (by kernel_rfl) (fun _ _ _ h=>h) (Or.inl ⟨by rfl,?_⟩) (by assumption) ?_
       rotate_left
       ·intro w' hSw
        clear hSw
        unfold opk15_14
        first
        | (go_simp;done)
        | (go_simp;with_reducible rfl)
       simp only[opk15_14,Act.put,List.setIfInBounds_toArray,List.set_cons_zero,List.set_cons_succ]
       refine wpAnyH_take (i:=15) (oi:=opk15_15) (v := ?_) rfl (by kernel_rfl) (by kernel_rfl) (by kernel_rfl) (fun _ _ _ h=>h) (Or.inl ⟨by rfl,?_⟩) (by assumption) ?_
       rotate_left
       ·intro w' hSw
        clear hSw
        unfold opk15_15
        first
        | (go_simp;done)
        | (go_simp;with_reducible rfl)
       simp only[opk15_15,Act.put,List.setIfInBounds_toArray,List.set_cons_zero,List.set_cons_succ]
       refine wpAnyH_take (i:=16) (oi:=opk15_16) (v := ?_) rfl (by kernel_rfl) (by kernel_rfl) (by kernel_rfl) (fun _ _ _ h=>h) (Or.inl ⟨by rfl,?_⟩) (by assumption) ?_
       rotate_left
       ·intro w' hSw
        obtain⟨f2,f3,f4,f5⟩:=hSw
        unfold opk15_16
        first
        | (go_simp;done)
        | (go_simp;with_reducible rfl)
       simp only[opk15_16,Act.put,List.setIfInBounds_toArray,List.set_cons_zero,List.set_cons_succ]
       refine wpAnyH_take (i:=17) (oi:=opk15_17) (v := ?_) rfl (by kernel_rfl) (by kernel_rfl) (by kernel_rfl) (fun _ _ _ h=>h) (Or.inl ⟨by rfl,?_⟩) (by assumption) ?_
       rotate_left
       ·intro w' hSw
        clear hSw
        unfold opk15_17
        first
        | (go_simp;done)
        | (go_simp;with_reducible rfl)
       simp only[opk15_17,Act.put,List.setIfInBounds_toArray,List.set_cons_zero,List.set_cons_succ]
       refine wpAnyH_take (i:=18) (oi:=opk15_18) (v := ?_) rfl (by kernel_rfl) (by kernel_rfl) (by kernel_rfl) (fun _ _ _ h=>h) (Or.inl ⟨by rfl,?_⟩) (by assumption) ?_
       rotate_left
       ·intro w' hSw
        clear hSw
        unfold opk15_18
        first
        | (go_simp;done)
        | (go_simp;with_reducible rfl)
       simp only[opk15_18,Act.put,List.setIfInBounds_toArray,List.set_cons_zero,List.set_cons_succ]
       refine wpAnyH_take (i:=19) (oi:=opk15_19) (v := ?_) rfl (by kernel_rfl) (by kernel_rfl) (by kernel_rfl) (fun _ _ _ h=>h) (Or.inl ⟨by rfl,?_⟩) (by assumption) ?_
       rotate_left
       ·intro w' hSw
        obtain⟨f2,f3,f4,f5⟩:=hSw
        unfold opk15_19
        first
        | (go_simp;done)
        | (go_simp;with_reducible rfl)
       simp only[opk15_19,Act.put,List.setIfInBounds_toArray,List.set_cons_zero,List.set_cons_succ]
       refine wpAnyH_take (i:=20) (oi:=opk15_20) (v := ?_) rfl (by kernel_rfl) (by kernel_rfl) (by kernel_rfl) (fun _ _ _ h=>h) (Or.inl ⟨by rfl,?_⟩) (by assumption) ?_
       rotate_left
       ·intro w' hSw
        clear hSw
        unfold opk15_20
        first
        | (go_simp;done)
        | (go_simp;with_reducible rfl)
       simp only[opk15_20,Act.put,List.setIfInBounds_toArray,List.set_cons_zero,List.set_cons_succ]
       refine wpAnyH_take (i:=21) (oi:=opk15_21) (v := ?_) rfl (by kernel_rfl) (by kernel_rfl) (by kernel_rfl) (fun _ _ _ h=>h) (Or.inl ⟨by rfl,?_⟩) (by assumption) ?_
       rotate_left
       ·intro w' hSw
        clear hSw
        unfold opk15_21
        first
        | (go_simp;done)
        | (go_simp;with_reducible rfl)
       simp only[opk15_21,Act.put,List.setIfInBounds_toArray,List.set_cons_zero,List.set_cons_succ]
       refine wpAnyH_take (i:=22) (oi:=opk15_22) (v := ?_) rfl (by kernel_rfl) (by kernel_rfl) (by kernel_rfl) (fun _ _ _ h=>h) (Or.inl ⟨by rfl,?_⟩) (by assumption) ?_
       rotate_left
       ·intro w' hSw
        clear hSw
        unfold opk15_22
        first
        | (go_simp;done)
        | (go_simp;with_reducible rfl)
       simp only[opk15_22,Act.put,List.setIfInBounds_toArray,List.set_cons_zero,List.set_cons_succ]
       refine wpAnyH_take (i:=23) (oi:=opk15_23) (v:=undef) rfl (by kernel_rfl) (by kernel_rfl) (by kernel_rfl) (fun _ _ _ h=>h) (Or.inr ⟨by rfl,rfl⟩) (by assumption) ?_
       simp only[opk15_23,Act.put,List.setIfInBounds_toArray,List.set_cons_zero,List.set_cons_succ]
       refine wpAnyH_take (i:=24) (oi:=opk15_24) (v:=undef) rfl (by kernel_rfl) (by kernel_rfl) (by kernel_rfl) (fun _ _ _ h=>h) (Or.inr ⟨by rfl,rfl⟩) (by assumption) ?_
       simp only[opk15_24,Act.put,List.setIfInBounds_toArray,List.set_cons_zero,List.set_cons_succ]
       refine wpAnyH_take (i:=25) (oi:=opk15_25) (v:=undef) rfl (by kernel_rfl) (by kernel_rfl) (by kernel_rfl) (fun _ _ _ h=>h) (Or.inr ⟨by rfl,rfl⟩) (by assumption) ?_
       simp only[opk15_25,Act.put,List.setIfInBounds_toArray,List.set_cons_zero,List.set_cons_succ]
       refine wpAnyH_take (i:=26) (oi:=opk15_26) (v:=undef) rfl (by kernel_rfl) (by kernel_rfl) (by kernel_rfl) (fun _ _ _ h=>h) (Or.inr ⟨by rfl,rfl⟩) (by assumption) ?_
       simp only[opk15_26,Act.put,List.setIfInBounds_toArray,List.set_cons_zero,List.set_cons_succ]
       refine wpAnyH_take (i:=27) (oi:=opk15_27) (v:=undef) rfl (by kernel_rfl) (by kernel_rfl) (by kernel_rfl) (fun _ _ _ h=>h) (Or.inr ⟨by rfl,rfl⟩) (by assumption) ?_
       simp only[opk15_27,Act.put,List.setIfInBounds_toArray,List.set_cons_zero,List.set_cons_succ]
       refine wpAnyH_take (i:=28) (oi:=opk15_28) (v:=undef) rfl (by kernel_rfl) (by kernel_rfl) (by kernel_rfl) (fun _ _ _ h=>h) (Or.inr ⟨by rfl,rfl⟩) (by assumption) ?_
       simp only[opk15_28,Act.put,List.setIfInBounds_toArray,List.set_cons_zero,List.set_cons_succ]
       refine wpAnyH_take (i:=29) (oi:=opk15_29) (v:=undef) rfl (by kernel_rfl) (by kernel_rfl) (by kernel_rfl) (fun _ _ _ h=>h) (Or.inr ⟨by rfl,rfl⟩) (by assumption) ?_
       simp only[opk15_29,Act.put,List.setIfInBounds_toArray,List.set_cons_zero,List.set_cons_succ]
       refine wpAnyH_take (i:=30) (oi:=opk15_30) (v:=undef) rfl (by kernel_rfl) (by kernel_rfl) (by kernel_rfl) (fun _ _ _ h=>h) (Or.inr ⟨by rfl,rfl⟩) (by assumption) ?_
       simp only[opk15_30,Act.put,List.setIfInBounds_toArray,List.set_cons_zero,List.set_cons_succ]
       refine wpAnyH_take (i:=31) (oi:=opk15_31) (v:=undef) rfl (by kernel_rfl) (by kernel_rfl) (by kernel_rfl) (fun _ _ _ h=>h) (Or.inr ⟨by rfl,rfl⟩) (by assumption) ?_
       simp only[opk15_31,Act.put,List.setIfInBounds_toArray,List.set_cons_zero,List.set_cons_succ]
       refine wpAnyH_take (i:=32) (oi:=opk15_32) (v:=undef) rfl (by kernel_rfl) (by kernel_rfl) (by kernel_rfl) (fun _ _ _ h=>h) (Or.inr ⟨by rfl,rfl⟩) (by assumption) ?_
       simp only[opk15_32,Act.put,List.setIfInBounds_toArray,List.set_cons_zero,List.set_cons_succ]
       refine wpAnyH_take (i:=33) (oi:=opk15_33) (v:=undef) rfl (by kernel_rfl) (by kernel_rfl) (by kernel_rfl) (fun _ _ _ h=>h) (Or.inr ⟨by rfl,rfl⟩) (by assumption) ?_
       simp only[opk15_33,Act.put,List.setIfInBounds_toArray,List.set_cons_zero,List.set_cons_succ]
       refine wpAnyH_take (i:=34) (oi:=opk15_34) (v:=undef) rfl (by kernel_rfl) (by kernel_rfl) (by kernel_rfl) (fun _ _ _ h=>h) (Or.inr ⟨by rfl,rfl⟩) (by assumption) ?_
       simp only[opk15_34,Act.put,List.setIfInBounds_toArray,List.set_cons_zero,List.set_cons_succ]
       refine wpAnyH_take (i:=35) (oi:=opk15_35) (v:=undef) rfl (by kernel_rfl) (by kernel_rfl) (by kernel_rfl) (fun _ _ _ h=>h) (Or.inr ⟨by rfl,rfl⟩) (by assumption) ?_
       simp only[opk15_35,Act.put,List.setIfInBounds_toArray,List.set_cons_zero,List.set_cons_succ]
       refine wpAnyH_take (i:=36) (oi:=opk15_36) (v:=undef) rfl (by kernel_rfl) (by kernel_rfl) (by kernel_rfl) (fun _ _ _ h=>h) (Or.inr ⟨by rfl,rfl⟩) (by assumption) ?_
       simp only[opk15_36,Act.put,List.setIfInBounds_toArray,List.set_cons_zero,List.set_cons_succ]
       refine wpAnyH_take (i:=37) (oi:=opk15_37) (v:=undef) rfl (by kernel_rfl) (by kernel_rfl) (by kernel_rfl) (fun _ _ _ h=>h) (Or.inr ⟨by rfl,rfl⟩) (by assumption) ?_
       simp only[opk15_37,Act.put,List.setIfInBounds_toArray,List.set_cons_zero,List.set_cons_succ]
       refine wpAnyH_take (i:=38) (oi:=opk15_38) (v:=undef) rfl (by kernel_rfl) (by kernel_rfl) (by kernel_rfl) (fun _ _ _ h=>h) (Or.inr ⟨by rfl,rfl⟩) (by assumption) ?_
       simp only[opk15_38,Act.put,List.setIfInBounds_toArray,List.set_cons_zero,List.set_cons_succ]
       refine wpAnyH_take (i:=39) (oi:=opk15_39) (v:=undef) rfl (by kernel_rfl) (by kernel_rfl) (by kernel_rfl) (fun _ _ _ h=>h) (Or.inr ⟨by rfl,rfl⟩) (by assumption) ?_
       simp only[opk15_39,Act.put,List.setIfInBounds_toArray,List.set_cons_zero,List.set_cons_succ]
       refine wpAnyH_take (i:=40) (oi:=opk15_40) (v:=undef) rfl (by kernel_rfl) (by kernel_rfl) (by kernel_rfl) (fun _ _ _ h=>h) (Or.inr ⟨by rfl,rfl⟩) (by assumption) ?_
       simp only[opk15_40,Act.put,List.setIfInBounds_toArray,List.set_cons_zero,List.set_cons_succ]
       refine wpAnyH_take (i:=41) (oi:=opk15_41) (v:=undef) rfl (by kernel_rfl) (by kernel_rfl) (by kernel_rfl) (fun _ _ _ h=>h) (Or.inr ⟨by rfl,rfl⟩) (by assumption) ?_
       simp only[opk15_41,Act.put,List.setIfInBounds_toArray,List.set_cons_zero,List.set_cons_succ]
       refine wpAnyH_take (i:=42) (oi:=opk15_42) (v:=undef) rfl (by kernel_rfl) (by kernel_rfl) (by kernel_rfl) (fun _ _ _ h=>h) (Or.inr ⟨by rfl,rfl⟩) (by assumption) ?_
       simp only[opk15_42,Act.put,List.setIfInBounds_toArray,List.set_cons_zero,List.set_cons_succ]
       refine wpAnyH_take (i:=43) (oi:=opk15_43) (v:=undef) rfl (by kernel_rfl) (by kernel_rfl) (by kernel_rfl) (fun _ _ _ h=>h) (Or.inr ⟨by rfl,rfl⟩) (by assumption) ?_
       simp only[opk15_43,Act.put,List.setIfInBounds_toArray,List.set_cons_zero,List.set_cons_succ]
       refine wpAnyH_take (i:=44) (oi:=opk15_44) (v:=undef) rfl (by kernel_rfl) (by kernel_rfl) (by kernel_rfl) (fun _ _ _ h=>h) (Or.inr ⟨by rfl,rfl⟩) (by assumption) ?_
       simp only[opk15_44,Act.put,List.setIfInBounds_toArray,List.set_cons_zero,List.set_cons_succ]
       refine wpAnyH_take (i:=45) (oi:=opk15_45) (v:=undef) rfl (by kernel_rfl) (by kernel_rfl) (by kernel_rfl) (fun _ _ _ h=>h) (Or.inr ⟨by rfl,rfl⟩) (by assumption) ?_
       simp only[opk15_45,Act.put,List.setIfInBounds_toArray,List.set_cons_zero,List.set_cons_succ]
       refine wpAnyH_take (i:=46) (oi:=opk15_46) (v:=undef) rfl (by kernel_rfl) (by kernel_rfl) (by kernel_rfl) (fun _ _ _ h=>h) (Or.inr ⟨by rfl,rfl⟩) (by assumption) ?_
       simp only[opk15_46,Act.put,List.setIfInBounds_toArray,List.set_cons_zero,List.set_cons_succ]
       refine wpAnyH_take (i:=47) (oi:=opk15_47) (v:=undef) rfl (by kernel_rfl) (by kernel_rfl) (by kernel_rfl) (fun _ _ _ h=>h) (Or.inr ⟨by rfl,rfl⟩) (by assumption) ?_
       simp only[opk15_47,Act.put,List.setIfInBounds_toArray,List.set_cons_zero,List.set_cons_succ]
       refine wpAnyH_take (i:=48) (oi:=opk15_48) (v:=undef) rfl (by kernel_rfl) (by kernel_rfl) (by kernel_rfl) (fun _ _ _ h=>h) (Or.inr ⟨by rfl,rfl⟩) (by assumption) ?_
       simp only[opk15_48,Act.put,List.setIfInBounds_toArray,List.set_cons_zero,List.set_cons_succ]
       refine wpAnyH_take (i:=49) (oi:=opk15_49) (v:=undef) rfl (by kernel_rfl) (by kernel_rfl) (by kernel_rfl) (fun _ _ _ h=>h) (Or.inr ⟨by rfl,rfl⟩) (by assumption) ?_
       simp only[opk15_49,Act.put,List.setIfInBounds_toArray,List.set_cons_zero,List.set_cons_succ]
       refine wpAnyH_take (i:=50) (oi:=opk15_50) (v := ?_) rfl (by kernel_rfl) (by kernel_rfl) (by kernel_rfl) (fun _ _ _ h=>h) (Or.inl ⟨by rfl,?_⟩) (by assumption) ?_
       rotate_left
       ·intro w' hSw
        clear hSw
        unfold opk15_50
        first
        | (go_simp;done)
        | (go_simp;with_reducible rfl)
       simp only[opk15_50,Act.put,List.setIfInBounds_toArray,List.set_cons_zero,List.set_cons_succ]
       refine wpAnyH_done (by kernel_rfl) ?_ _
       refine NoPanic.normal ?_
       go_wp2
       go_meet
       case rel=>exact⟨rfl,FD.out⟩
      | false =>
       rw[hdn] at d3
       have hln:(y.2.1++y.2.2).length≤1000000:=by have:=gd.n;rw[List.length_append];omega
       have SM:Hid (∀W a c a2 c2,TxAt W a (y.2.1++y.2.2)→TxAt W a2 (y.2.1++y.2.2)→Calls Tryz.prog 15 #[.slice a (y.2.1++y.2.2).length c,.slice a2 (y.2.1++y.2.2).length c2] W fun e w'=>e = .returned (.bool true)∧Below W.heap.size W w'):=fun W a c a2 c2 t1 t2=>bsame_any a a2 _ c c2 _ rfl hln W t1 t2
       have E1:Hid _:=EP
       have T1:Hid _:=TP
       have T2:Hid _:=TR
       obtain⟨l,hl⟩:∃l,y.2.1++y.2.2=l:=⟨_,rfl⟩
       rw[hl] at SM T1 T2
       obtain⟨N,hN⟩:∃N,l.length=N:=⟨_,rfl⟩
       rw[hN] at SM T1 T2
       obtain⟨ye,hye⟩:∃z:Int,(y.1:Int)=z:=⟨_,rfl⟩
       rw[hye] at E1 e2
       have KS:∀W,Below w6.heap.size w6 W→W.cell? ⟨B,2,none⟩=some (.pointer (some ⟨d,0,none⟩))∧W.cell? ⟨B,3,none⟩=some (.pointer (some q1))∧W.cell? ⟨B,4,none⟩=some (.pointer (some ⟨q2,0,none⟩))∧W.cell? ⟨d,3,none⟩=some (.bool false)∧W.cell? ⟨q2,2,none⟩=some (.int .i64 ye):=fun W hb=>⟨cell_later hb b2,cell_later hb b3,cell_later hb b4,cell_later hb d3,cell_later hb e2⟩
       have U1:Hid (∀W,Below w6.heap.size w6 W→Calls Tryz.prog 16 #[.pointer (some q1)] W fun e w1=>∃a c,e = .returned (.slice a N c)∧(w1.cell? ⟨B,2,none⟩=some (.pointer (some ⟨d,0,none⟩))∧w1.cell? ⟨B,3,none⟩=some (.pointer (some q1))∧w1.cell? ⟨B,4,none⟩=some (.pointer (some ⟨q2,0,none⟩))∧w1.cell? ⟨d,3,none⟩=some (.bool false)∧w1.cell? ⟨q2,2,none⟩=some (.int .i64 ye))∧Hid (TxAt w1 a l∧Below w6.heap.size w6 w1)):=fun W hb=>(T1.out W hb).mono fun _ _ ⟨a,c,x1,x2,x3⟩=>⟨a,c,x1,KS _ (chain hb x3),x2,chain hb x3⟩
       have U2:Hid (∀W,Below w6.heap.size w6 W→Calls Tryz.prog 17 #[.pointer (some ⟨q2,0,none⟩)] W fun e w1=>∃a c,e = .returned (.slice a N c)∧(w1.cell? ⟨B,2,none⟩=some (.pointer (some ⟨d,0,none⟩))∧w1.cell? ⟨B,3,none⟩=some (.pointer (some q1))∧w1.cell? ⟨B,4,none⟩=some (.pointer (some ⟨q2,0,none⟩))∧w1.cell? ⟨d,3,none⟩=some (.bool false)∧w1.cell? ⟨q2,2,none⟩=some (.int .i64 ye))∧Hid (TxAt w1 a l∧Below w6.heap.size w6 w1∧Below W.heap.size W w1)):=fun W hb=>(T2.out W hb).mono fun _ _ ⟨a,c,x1,x2,x3⟩=>⟨a,c,x1,KS _ (chain hb x3),x2,chain hb x3,x3⟩
       have U3:Hid (∀W a c a2 c2,Below w6.heap.size w6 W→TxAt W a l→TxAt W a2 l→Calls Tryz.prog 15 #[.slice a N c,.slice a2 N c2] W fun e w1=>e = .returned (.bool true)∧(w1.cell? ⟨B,2,none⟩=some (.pointer (some ⟨d,0,none⟩))∧w1.cell? ⟨B,3,none⟩=some (.pointer (some q1))∧w1.cell? ⟨B,4,none⟩=some (.pointer (some ⟨q2,0,none⟩))∧w1.cell? ⟨d,3,none⟩=some (.bool false)∧w1.cell? ⟨q2,2,none⟩=some (.int .i64 ye))∧Hid (Below w6.heap.size w6 w1)):=fun W a c a2 c2 hb t1 t2=>(SM.out W a c a2 c2 t1 t2).mono fun _ _ ⟨x1,x3⟩=>⟨x1,KS _ (chain hb x3),chain hb x3⟩
       have BD:Hid (Below w6.heap.size w6 w6.drew):=(Below.refl _ _).drew
       have s0:=KS w6.drew BD.out
       clear b2 b3 b4 d3 e2 b6 iv6 EP TP TR hdn gy gd SM T1 T2 hl hN hye hln FD KS
       go_wp2_with fail
       go_region_held3 (fun w1=>w1.cell? ⟨B,2,none⟩=some (.pointer (some ⟨d,0,none⟩))∧w1.cell? ⟨B,3,none⟩=some (.pointer (some q1))∧w1.cell? ⟨B,4,none⟩=some (.pointer (some ⟨q2,0,none⟩))∧w1.cell? ⟨d,3,none⟩=some (.bool false)∧w1.cell? ⟨q2,2,none⟩=some (.int .i64 ye)) (first|exact s0|assumption) (first|(go_at_call 14;refine Calls.mono (E1.out _ BD.out) ?_;rintro e w7 ⟨rfl,rfl⟩)|(go_at_call 16;refine Calls.mono (U1.out _ BD.out) ?_;rintro e w8 ⟨t1,c1,rfl,s8,K8⟩)|(go_at_call 17;refine Calls.mono (U2.out _ K8.out.2) ?_;rintro e w9 ⟨t2,c2,rfl,s9,K9⟩)|(go_at_call 15;refine Calls.mono (U3.out _ _ _ _ _ K9.out.2.1 (K8.out.1.later K9.out.2.2) K9.out.1) ?_;rintro e w10 ⟨rfl,s10,K10⟩))
       go_wp2
       go_meet
       case rel=>exact⟨rfl,PD.out _ K10.out⟩
    case rest =>
     obtain⟨rfl,J⟩:=hcut
     clear J6
     have RD:Hid (∀j:Int,∃(T:ByteArray) (z:Int),Calls Tryz.prog 18 #[.pointer (some ⟨p,0,none⟩),.int .i64 j] wc (fun e w'=>e = .returned (.tuple #[.string T,.int .i64 z])∧w'=wc)∧Calls Tryz.prog 19 #[.pointer (some ⟨d,0,none⟩),.int .i64 j] wc (fun e w'=>e = .returned (.tuple #[.string T,.int .i64 z])∧w'=wc)):=by
      obtain⟨s,oo,b7,iv7⟩:=J.out
      exact fun j=>b7.reads (by have:=iv7.l;omega) j
     have d4:wc.cell? ⟨d,4,none⟩=some (.int .i64 z0):=by
      obtain⟨s,oo,b7,iv7⟩:=J.out
      have:=b7.looks.2.2
      rw[iv7.n,HZ.out] at this
      exact this
     have N60:z0≤60:=by omega
     clear g1 g2
     obtain⟨wz,hwz⟩:∃W,wc=W:=⟨_,rfl⟩
     subst hwz
     go_wp2_with fail
     go_loopw [13] (fun i wr=>∃j:Nat,(j:Int)≤z0∧i = .int .i64 (j:Int)∧wc=wr) (fun i wr=>60 - (intOf i).toNat)
     case atStart=>exact⟨0,by have:=HZ.out;omega,rfl,rfl⟩
     case round =>
      obtain⟨j,hj,rfl,hwr⟩:=hrel
      subst hwr
      by_cases hjn:(j:Int) < z0
      ·have hj60:j < 60:=by omega
       obtain⟨T,z,R1,R2⟩:=RD.out (j:Int)
       have R1':Hid _:=R1
       have R2':Hid _:=R2
       clear R1 R2
       go_wp2_with fail
       refine Calls.mono R1'.out ?_
       rintro e w11 ⟨rfl,hw11⟩
       subst hw11
       go_wp2_with fail
       refine Calls.mono R2'.out ?_
       rintro e w12 ⟨rfl,hw12⟩
       subst hw12
       clear R1' R2'
       go_wp2
       go_roundw
       case rel=>exact⟨j+1,by omega,by go_num,by first|rfl|trivial⟩
       case measure=>simp[intOf];omega
      ·go_wp2
       go_roundw
       case rel=>exact⟨k+1,by omega,by omega,by go_num,J.out⟩
       case measure=>simp[intOf];omega
   ·obtain rfl:k=30:=by omega
    have g1:((30:Nat):Int) < (len:Int):=by omega
    have FF:Hid (Below w.heap.size w wr):=by
     obtain⟨s,o,b,-⟩:=I.out
     exact b.below
    clear I
    go_wp2
    go_ret
    exact⟨rfl,FF.out⟩
  ·obtain rfl:k=len:=by omega
   have FF:Hid (Below w.heap.size w wr):=by
    obtain⟨s,o,b,-⟩:=I.out
    exact b.below
   clear I
   go_wp2
   go_ret
   exact⟨rfl,FF.out⟩
end Go.Proofs.YtdcimnmebgkmjaaGreatDoor
