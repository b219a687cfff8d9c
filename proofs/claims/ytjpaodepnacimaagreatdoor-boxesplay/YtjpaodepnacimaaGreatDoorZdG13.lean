/- Parts: LrD,DkRc. -/
import Derived.Test.YtjpaodepnacimaaGreatDoorZdG11
import Derived.Test.YtjpaodepnacimaaGreatDoorZdG12
import Derived.Deep.Cut
namespace Go.Proofs.YtjpaodepnacimaaGreatDoor
open Go.RowKit Go.Proofs.Fd Go.Proofs.Dk Go.Proofs.Lg
set_option maxRecDepth 20000
theorem wrS_n (s:St) (k:Int) (t:Bs):(wrS s k t).n=s.n:=by
 unfold wrS
 split
 ·rfl
 ·split
  ·rfl
  ·split <;> rfl
structure Dw (v:World) (d:Nat) (G:Nat→Prop) (wr:World) (G':Nat→Prop) (s:St):Prop where
 at_:DAt wr d G' s
 nx:Nx v G G'
 bf:Bf G v wr
theorem Dw.stp {v wr wr':World} {d:Nat} {G G':Nat→Prop} {s t:St} (h:Dw v d G wr G' s) (k:DSt wr d G' t wr'):∃G'',Dw v d G wr' G'' t:=by
 obtain⟨G'',k1,k2,k3⟩:=k
 exact⟨G'',k1,h.nx.trans k2 h.bf.size,h.bf.trans h.nx k3⟩
theorem Dw.later {v wr wr':World} {d:Nat} {G G':Nat→Prop} {s:St} (h:Dw v d G wr G' s) (hb:Below wr.heap.size wr wr'):Dw v d G wr' G' s:=⟨h.at_.later hb,h.nx,h.bf.later hb⟩
theorem Dw.ds {v wr:World} {d:Nat} {G G':Nat→Prop} {s:St} (h:Dw v d G wr G' s):DSt v d G s wr:=⟨G',h.at_,h.nx,h.bf⟩
set_option maxHeartbeats 2000000 in
theorem rwrb_any (v:World) (d:Nat) (G:Nat→Prop) (s:St) (hh fr:Nat) (b:Bs) (m:Nat) (h1:hh≤1) (hn:s.n≤1024) (hb:b.length=64*m) (hm:m≤100) (hz:fr≤1024) (hl:s.l.length+m≤1000000) (h:Hid (DAt v d G s)) :
  Calls Tryz.prog 127 #[.pointer (some ⟨d,0,none⟩),.int .i64 (hh:Int),.int .i64 (fr:Int),sv b] v fun e w'=>e = .returned (.int .i64 (wrb s (hh*(s.n / 2)+fr) b).1)∧DSt v d G (wrb s (hh*(s.n / 2)+fr) b).2 w':=by
 have hs:(st b).size=64*m:=by rw[st_size,hb]
 have I0:Hid (Dw v d G v G s):=⟨h.out,Nx.refl _ _,Bf.refl _ _⟩
 obtain⟨H,hH⟩:∃H,s.n / 2=H:=⟨_,rfl⟩
 have hH2:H≤512:=by omega
 obtain⟨K,hK⟩:∃K,hh*H=K:=⟨_,rfl⟩
 have hK2:K≤512:=by
  rcases (by omega:hh=0∨hh=1) with e|e
  ·rw[←hK,e,Nat.zero_mul];omega
  ·rw[←hK,e,Nat.one_mul];omega
 have eK:(hh:Int)*(H:Int)=(K:Int):=by rw[←hK];simp
 have yK:IntKind.i64.wrap (K:Int)=(K:Int):=by rw[IntKind.wrap_i64];omega
 rw[hH,hK]
 have CUT:Hid (∀j,(st b).extract (64*j) (64*j+64)=st ((b.drop (64*j)).take 64)):=fun j=>by
  rw[st_cut,List.drop_take,show 64*j+64 - 64*j=64 by omega]
 have EW:Hid (wrb s (K+fr) b=wrs s (K+fr) (chs m b)):=by
  show wrb s (K+fr) b=_
  rw[wrb,hb,show 64*m / 64=m by omega]
 have HN:Hid (s.n / 2=H∧s.n≤1024):=⟨hH,hn⟩
 obtain⟨r,hr⟩:∃r,wrb s (K+fr) b=r:=⟨_,rfl⟩
 rw[hr] at EW ⊢
 obtain⟨X,hX⟩:∃X,st b=X:=⟨_,rfl⟩
 unfold sv
 rw[hX] at hs CUT ⊢
 have HS:Hid (X.size=64*m):=hs
 clear hX hr hb h hs hH hK hn h1
 go_enter Tryz.func127, Tryz.ntmps127
 go_wp2
 go_loopw [9] (fun i wr=>∃(j:Nat) (G':Nat→Prop) (s':St),j≤m∧i = .int .i64 ((64*j:Nat):Int)∧Hid (Dw v d G wr G' s'∧s'.n=s.n∧s'.l.length≤s.l.length+j∧r=wrs s' (K+fr+j) (chs (m - j) (b.drop (64*j))))) (fun i _=>64*m - (intOf i).toNat)
 case atStart=>exact⟨0,G,s,Nat.zero_le _,rfl,I0.out,rfl,Nat.le_refl _,EW.out⟩
 case round =>
  obtain⟨j,G',s',hj,rfl,I⟩:=hrel
  clear I0 EW
  by_cases hjm:j < m
  ·have hx:=wrs_next (s:=s') (k:=K+fr) (b:=b) hjm
   have hr:=I.out.2.2.2
   rw[hx] at hr
   have HR:Hid (r=_):=hr
   clear hr hx
   have CT:=CUT.out j
   obtain⟨t,ht⟩:∃t,(b.drop (64*j)).take 64=t:=⟨_,rfl⟩
   rw[ht] at CT HR
   clear ht
   obtain⟨q,hq⟩:∃q,64*j=q:=⟨_,rfl⟩
   rw[hq] at CT ⊢
   have hs:=HS.out
   have g1:(q:Int) < (X.size:Int):=by omega
   have g2:(q:Int)+64≤(X.size:Int):=by omega
   have g3:(q:Int) / 64=(j:Int):=by omega
   have g4:(0:Int)≤(q:Int):=by omega
   have g5:(q:Int)≤(q:Int)+64:=by omega
   have hq2:q≤6400:=by omega
   have hj2:j≤100:=by omega
   have y1:IntKind.i64.wrap ((q:Int)+64)=(q:Int)+64:=by rw[IntKind.wrap_i64];omega
   have y4:IntKind.i64.wrap (j:Int)=(j:Int):=by rw[IntKind.wrap_i64];omega
   have y2:IntKind.i64.wrap ((K:Int)+(fr:Int))=(K:Int)+(fr:Int):=by rw[IntKind.wrap_i64];omega
   have y3:IntKind.i64.wrap ((K:Int)+(fr:Int)+(j:Int))=(K:Int)+(fr:Int)+(j:Int):=by rw[IntKind.wrap_i64];omega
   clear hs
   have HA:Hid (∀W,Below wr.heap.size wr W→Calls Tryz.prog 79 #[.pointer (some ⟨d,0,none⟩)] W fun e w'=>e = .returned (.int .i64 (H:Int))∧w'=W):=fun W hb=>by
    have e:=I.out.2.1
    have:=rhalf_any d G' s' W (I.out.1.at_.later hb) (by rw[e];have:=HN.out.2;omega)
    rw[e,HN.out.1] at this
    exact this
   have W1:Hid (∀W,Below wr.heap.size wr W→Calls Tryz.prog 121 #[.pointer (some ⟨d,0,none⟩),.int .i64 ((K:Int)+(fr:Int)+(j:Int)),.string (st t)] W fun e w'=>e = .returned (.int .i64 (wrE s' ((K+fr+j:Nat):Int) t))∧∃G'',Dw v d G w' G'' (wrS s' ((K+fr+j:Nat):Int) t)):=fun W hb=>by
    have:=rwrite_any d G' s' ((K+fr+j:Nat):Int) (st t) W (I.out.1.at_.later hb) (by have:=I.out.2.2.1;omega)
    have e:((K+fr+j:Nat):Int)=(K:Int)+(fr:Int)+(j:Int):=by omega
    rw[e] at this ⊢
    exact this.mono fun _ _ ⟨he,k⟩=>⟨he,(I.out.1.later hb).stp k⟩
   have L1:Hid ((wrS s' ((K+fr+j:Nat):Int) t).n=s.n∧(wrS s' ((K+fr+j:Nat):Int) t).l.length≤s.l.length+(j+1)):=⟨(wrS_n _ _ _).trans I.out.2.1,Nat.le_trans (wrS_len _ _ _) (by have:=I.out.2.2.1;omega)⟩
   obtain⟨x,hx⟩:∃x,wrE s' ((K+fr+j:Nat):Int) t=x:=⟨_,rfl⟩
   obtain⟨s2,hs2⟩:∃s2,wrS s' ((K+fr+j:Nat):Int) t=s2:=⟨_,rfl⟩
   rw[hx,hs2] at HR W1
   rw[hs2] at L1
   clear I hx hs2 CUT
   obtain⟨T,hT⟩:∃T,st t=T:=⟨_,rfl⟩
   rw[hT] at CT W1
   have SLI:∀W,(Instr.slice 9 (.string X) (some (.int .i64 (q:Int))) (some (.int .i64 ((q:Int)+64))) none).run Tryz.prog W = .ok (.string T) W:=fun W=>by
    rw[←CT]
    exact cut_run X q (q+64) _ _ rfl (by omega) (by omega) (by omega) W
   clear hT CT
   by_cases h0:x=0
   ·subst h0
    have HR2:Hid (r=wrs s2 (K+fr+(j+1)) (chs (m - (j+1)) (b.drop (64*(j+1))))):=HR.out
    clear HR
    go_wp2_with fail
    go_region_with (first
     | (go_at_call 79;refine Calls.mono (HA.out _ (by first|exact Below.refl _ _|exact (Below.refl _ _).drew)) ?_;rintro e w1 ⟨rfl,rfl⟩)
     | (go_at_call 121;refine Calls.mono (W1.out _ (by first|exact Below.refl _ _|exact (Below.refl _ _).drew)) ?_;rintro e w1 ⟨rfl,F2,J2⟩))
    all_goals
     go_wp2
     go_roundw
     case rel=>exact⟨j+1,F2,s2,by omega,by first|rfl|(congr 1;omega),J2,L1.out.1,L1.out.2,HR2.out⟩
     case measure=>simp[intOf];omega
   ·have HR2:Hid (r=(x,s2)):=by
     show r=(x,s2)
     rw[HR.out,thn_no h0]
    clear HR
    go_wp2_with fail
    go_region_with (first
     | (go_at_call 79;refine Calls.mono (HA.out _ (by first|exact Below.refl _ _|exact (Below.refl _ _).drew)) ?_;rintro e w1 ⟨rfl,rfl⟩)
     | (go_at_call 121;refine Calls.mono (W1.out _ (by first|exact Below.refl _ _|exact (Below.refl _ _).drew)) ?_;rintro e w1 ⟨rfl,F2,J2⟩))
    all_goals
     go_wp2
     go_ret
     exact⟨by rw[HR2.out];rfl,by rw[HR2.out];exact J2.ds⟩
  ·obtain rfl:j=m:=by omega
   have HR2:Hid (r=(0,s')):=by
    show r=_
    rw[I.out.2.2.2,Nat.sub_self]
    rfl
   have hs:=HS.out
   have g1:¬(((64*j:Nat):Int) < (X.size:Int)):=by omega
   obtain⟨q,hq⟩:∃q,64*j=q:=⟨_,rfl⟩
   rw[hq] at g1 ⊢
   clear hs CUT
   go_wp2
   go_ret
   exact⟨by rw[HR2.out];rfl,by rw[HR2.out];exact I.out.1.ds⟩
end Go.Proofs.YtjpaodepnacimaaGreatDoor
namespace Go.Proofs.YtjpaodepnacimaaGreatDoor
open Go.RowKit Go.Proofs.Fd Go.Proofs.Dk
set_option maxRecDepth 20000
def oprs0:Oper:={ dst:=some 21,op:=Go.Op.move (Go.Operand.tmp 0),type := 27, pos := "ref.go:94", after:=#[],guard:=none }
def oprs1:Oper:={ dst:=some 22,op:=Go.Op.nilCheck (Go.Operand.tmp 21),type:=0,pos := "ref.go:94", after:=#[{ on:=0,ground:=Go.Ground.data }],guard:=none }
def oprs2:Oper:={ dst:=some 23,op:=Go.Op.fieldAddr 43 (Go.Operand.tmp 22) 0,type:=0,pos := "ref.go:94", after:=#[{ on:=1,ground:=Go.Ground.data }],guard:=none }
def oprs3:Oper:={ dst:=some 24,op:=Go.Op.load 37 (Go.Operand.tmp 23),type := 37, pos := "ref.go:94", after:=#[{ on:=2,ground:=Go.Ground.data }],guard:=none }
def oprs4:Oper:={ dst:=some 25,op:=Go.Op.move (Go.Operand.tmp 0),type := 27, pos := "ref.go:94", after:=#[],guard:=none }
def oprs5:Oper:={ dst:=some 26,op:=Go.Op.nilCheck (Go.Operand.tmp 25),type:=0,pos := "ref.go:94", after:=#[{ on:=4,ground:=Go.Ground.data }],guard:=none }
def oprs6:Oper:={ dst:=some 27,op:=Go.Op.fieldAddr 43 (Go.Operand.tmp 26) 1,type:=0,pos := "ref.go:94", after:=#[{ on:=5,ground:=Go.Ground.data }],guard:=none }
def oprs7:Oper:={ dst:=some 28,op:=Go.Op.load 41 (Go.Operand.tmp 27),type := 41, pos := "ref.go:94", after:=#[{ on:=6,ground:=Go.Ground.data }],guard:=none }
def oprs8:Oper:={ dst:=some 29,op:=Go.Op.move (Go.Operand.tmp 3),type := 3, pos := "ref.go:94", after:=#[],guard:=none }
def oprs9:Oper:={ dst:=some 30,op:=Go.Op.indexAddr 41 (Go.Operand.tmp 28) (Go.Operand.tmp 29),type:=0,pos := "ref.go:94", after:=#[{ on:=7,ground:=Go.Ground.data },{ on:=8,ground:=Go.Ground.data }],guard:=none }
def oprs10:Oper:={ dst:=some 31,op:=Go.Op.fieldAddr 98 (Go.Operand.tmp 30) 0,type:=0,pos := "ref.go:94", after:=#[{ on:=9,ground:=Go.Ground.data }],guard:=none }
def oprs11:Oper:={ dst:=some 32,op:=Go.Op.load 3 (Go.Operand.tmp 31),type := 3, pos := "ref.go:94", after:=#[{ on:=10,ground:=Go.Ground.data }],guard:=none }
def oprs12:Oper:={ dst:=some 33,op:=Go.Op.move (Go.Operand.tmp 0),type := 27, pos := "ref.go:94", after:=#[],guard:=none }
def oprs13:Oper:={ dst:=some 34,op:=Go.Op.nilCheck (Go.Operand.tmp 33),type:=0,pos := "ref.go:94", after:=#[{ on:=12,ground:=Go.Ground.data }],guard:=none }
def oprs14:Oper:={ dst:=some 35,op:=Go.Op.fieldAddr 43 (Go.Operand.tmp 34) 1,type:=0,pos := "ref.go:94", after:=#[{ on:=13,ground:=Go.Ground.data }],guard:=none }
def oprs15:Oper:={ dst:=some 36,op:=Go.Op.load 41 (Go.Operand.tmp 35),type := 41, pos := "ref.go:94", after:=#[{ on:=14,ground:=Go.Ground.data }],guard:=none }
def oprs16:Oper:={ dst:=some 37,op:=Go.Op.move (Go.Operand.tmp 3),type := 3, pos := "ref.go:94", after:=#[],guard:=none }
def oprs17:Oper:={ dst:=some 38,op:=Go.Op.indexAddr 41 (Go.Operand.tmp 36) (Go.Operand.tmp 37),type:=0,pos := "ref.go:94", after:=#[{ on:=15,ground:=Go.Ground.data },{ on:=16,ground:=Go.Ground.data }],guard:=none }
def oprs18:Oper:={ dst:=some 39,op:=Go.Op.fieldAddr 98 (Go.Operand.tmp 38) 1,type:=0,pos := "ref.go:94", after:=#[{ on:=17,ground:=Go.Ground.data }],guard:=none }
def oprs19:Oper:={ dst:=some 40,op:=Go.Op.load 9 (Go.Operand.tmp 39),type := 9, pos := "ref.go:94", after:=#[{ on:=18,ground:=Go.Ground.data }],guard:=none }
def oprs20:Oper:={ dst:=some 41,op:=Go.Op.indexAddr 37 (Go.Operand.tmp 24) (Go.Operand.tmp 32),type:=0,pos := "ref.go:94", after:=#[{ on:=3,ground:=Go.Ground.data },{ on:=11,ground:=Go.Ground.data },{ on:=0,ground:=Go.Ground.phase },{ on:=1,ground:=Go.Ground.phase },{ on:=2,ground:=Go.Ground.phase },{ on:=3,ground:=Go.Ground.phase },{ on:=4,ground:=Go.Ground.phase },{ on:=5,ground:=Go.Ground.phase },{ on:=6,ground:=Go.Ground.phase },{ on:=7,ground:=Go.Ground.phase },{ on:=8,ground:=Go.Ground.phase },{ on:=9,ground:=Go.Ground.phase },{ on:=10,ground:=Go.Ground.phase },{ on:=11,ground:=Go.Ground.phase },{ on:=12,ground:=Go.Ground.phase },{ on:=13,ground:=Go.Ground.phase },{ on:=14,ground:=Go.Ground.phase },{ on:=15,ground:=Go.Ground.phase },{ on:=16,ground:=Go.Ground.phase },{ on:=17,ground:=Go.Ground.phase },{ on:=18,ground:=Go.Ground.phase },{ on:=19,ground:=Go.Ground.phase }],guard:=none }
def oprs21:Oper:={ dst:=none,op:=Go.Op.store 9 (Go.Operand.tmp 41) (Go.Operand.tmp 40),type:=0,pos := "ref.go:94", after:=#[{ on:=20,ground:=Go.Ground.data },{ on:=19,ground:=Go.Ground.data },{ on:=0,ground:=Go.Ground.phase },{ on:=1,ground:=Go.Ground.phase },{ on:=2,ground:=Go.Ground.phase },{ on:=3,ground:=Go.Ground.phase },{ on:=4,ground:=Go.Ground.phase },{ on:=5,ground:=Go.Ground.phase },{ on:=6,ground:=Go.Ground.phase },{ on:=7,ground:=Go.Ground.phase },{ on:=8,ground:=Go.Ground.phase },{ on:=9,ground:=Go.Ground.phase },{ on:=10,ground:=Go.Ground.phase },{ on:=11,ground:=Go.Ground.phase },{ on:=12,ground:=Go.Ground.phase },{ on:=13,ground:=Go.Ground.phase },{ on:=14,ground:=Go.Ground.phase },{ on:=15,ground:=Go.Ground.phase },{ on:=16,ground:=Go.Ground.phase },{ on:=17,ground:=Go.Ground.phase },{ on:=18,ground:=Go.Ground.phase },{ on:=19,ground:=Go.Ground.phase }],guard:=none }
def oprc0:Oper:={ dst:=some 35,op:=Go.Op.move (Go.Operand.tmp 0),type := 27, pos := "ref.go:120", after:=#[],guard:=none }
def oprc1:Oper:={ dst:=some 36,op:=Go.Op.nilCheck (Go.Operand.tmp 35),type:=0,pos := "ref.go:120", after:=#[{ on:=0,ground:=Go.Ground.data }],guard:=none }
def oprc2:Oper:={ dst:=some 37,op:=Go.Op.fieldAddr 43 (Go.Operand.tmp 36) 0,type:=0,pos := "ref.go:120", after:=#[{ on:=1,ground:=Go.Ground.data }],guard:=none }
def oprc3:Oper:={ dst:=some 38,op:=Go.Op.load 37 (Go.Operand.tmp 37),type := 37, pos := "ref.go:120", after:=#[{ on:=2,ground:=Go.Ground.data }],guard:=none }
def oprc4:Oper:={ dst:=some 39,op:=Go.Op.fieldAddr 98 (Go.Operand.tmp 7) 0,type:=0,pos := "ref.go:120", after:=#[],guard:=none }
def oprc5:Oper:={ dst:=some 40,op:=Go.Op.load 3 (Go.Operand.tmp 39),type := 3, pos := "ref.go:120", after:=#[{ on:=4,ground:=Go.Ground.data }],guard:=none }
def oprc6:Oper:={ dst:=some 41,op:=Go.Op.fieldAddr 98 (Go.Operand.tmp 7) 1,type:=0,pos := "ref.go:120", after:=#[],guard:=none }
def oprc7:Oper:={ dst:=some 42,op:=Go.Op.load 9 (Go.Operand.tmp 41),type := 9, pos := "ref.go:120", after:=#[{ on:=6,ground:=Go.Ground.data }],guard:=none }
def oprc8:Oper:={ dst:=some 43,op:=Go.Op.move (Go.Operand.tmp 6),type := 3, pos := "ref.go:120", after:=#[],guard:=none }
def oprc9:Oper:={ dst:=some 44,op:=Go.Op.slice 9 (Go.Operand.tmp 42) none (some (Go.Operand.tmp 43)) none,type := 9, pos := "ref.go:120", after:=#[{ on:=7,ground:=Go.Ground.data },{ on:=8,ground:=Go.Ground.data }],guard:=none }
def oprc10:Oper:={ dst:=some 45,op:=Go.Op.move (Go.Operand.tmp 0),type := 27, pos := "ref.go:120", after:=#[],guard:=none }
def oprc11:Oper:={ dst:=some 46,op:=Go.Op.nilCheck (Go.Operand.tmp 45),type:=0,pos := "ref.go:120", after:=#[{ on:=10,ground:=Go.Ground.data }],guard:=none }
def oprc12:Oper:={ dst:=some 47,op:=Go.Op.fieldAddr 43 (Go.Operand.tmp 46) 0,type:=0,pos := "ref.go:120", after:=#[{ on:=11,ground:=Go.Ground.data }],guard:=none }
def oprc13:Oper:={ dst:=some 48,op:=Go.Op.load 37 (Go.Operand.tmp 47),type := 37, pos := "ref.go:120", after:=#[{ on:=12,ground:=Go.Ground.data }],guard:=none }
def oprc14:Oper:={ dst:=some 49,op:=Go.Op.fieldAddr 98 (Go.Operand.tmp 7) 0,type:=0,pos := "ref.go:120", after:=#[],guard:=none }
def oprc15:Oper:={ dst:=some 50,op:=Go.Op.load 3 (Go.Operand.tmp 49),type := 3, pos := "ref.go:120", after:=#[{ on:=14,ground:=Go.Ground.data }],guard:=none }
def oprc16:Oper:={ dst:=some 51,op:=Go.Op.indexAddr 37 (Go.Operand.tmp 48) (Go.Operand.tmp 50),type:=0,pos := "ref.go:120", after:=#[{ on:=13,ground:=Go.Ground.data },{ on:=15,ground:=Go.Ground.data }],guard:=none }
def oprc17:Oper:={ dst:=some 52,op:=Go.Op.load 9 (Go.Operand.tmp 51),type := 9, pos := "ref.go:120", after:=#[{ on:=16,ground:=Go.Ground.data }],guard:=none }
def oprc18:Oper:={ dst:=some 53,op:=Go.Op.move (Go.Operand.tmp 6),type := 3, pos := "ref.go:120", after:=#[],guard:=none }
def oprc19:Oper:={ dst:=some 54,op:=Go.Op.slice 9 (Go.Operand.tmp 52) (some (Go.Operand.tmp 53)) none none,type := 9, pos := "ref.go:120", after:=#[{ on:=17,ground:=Go.Ground.data },{ on:=18,ground:=Go.Ground.data }],guard:=none }
def oprc20:Oper:={ dst:=some 55,op:=Go.Op.binOp Go.BinOp.add 9 (Go.Operand.tmp 44) (Go.Operand.tmp 54) 9, type := 9, pos := "ref.go:120", after:=#[{ on:=9,ground:=Go.Ground.data },{ on:=19,ground:=Go.Ground.data }],guard:=none }
def oprc21:Oper:={ dst:=some 56,op:=Go.Op.indexAddr 37 (Go.Operand.tmp 38) (Go.Operand.tmp 40),type:=0,pos := "ref.go:120", after:=#[{ on:=3,ground:=Go.Ground.data },{ on:=5,ground:=Go.Ground.data },{ on:=0,ground:=Go.Ground.phase },{ on:=1,ground:=Go.Ground.phase },{ on:=2,ground:=Go.Ground.phase },{ on:=3,ground:=Go.Ground.phase },{ on:=4,ground:=Go.Ground.phase },{ on:=5,ground:=Go.Ground.phase },{ on:=6,ground:=Go.Ground.phase },{ on:=7,ground:=Go.Ground.phase },{ on:=8,ground:=Go.Ground.phase },{ on:=9,ground:=Go.Ground.phase },{ on:=10,ground:=Go.Ground.phase },{ on:=11,ground:=Go.Ground.phase },{ on:=12,ground:=Go.Ground.phase },{ on:=13,ground:=Go.Ground.phase },{ on:=14,ground:=Go.Ground.phase },{ on:=15,ground:=Go.Ground.phase },{ on:=16,ground:=Go.Ground.phase },{ on:=17,ground:=Go.Ground.phase },{ on:=18,ground:=Go.Ground.phase },{ on:=19,ground:=Go.Ground.phase },{ on:=20,ground:=Go.Ground.phase }],guard:=none }
def oprc22:Oper:={ dst:=none,op:=Go.Op.store 9 (Go.Operand.tmp 56) (Go.Operand.tmp 55),type:=0,pos := "ref.go:120", after:=#[{ on:=21,ground:=Go.Ground.data },{ on:=20,ground:=Go.Ground.data },{ on:=0,ground:=Go.Ground.phase },{ on:=1,ground:=Go.Ground.phase },{ on:=2,ground:=Go.Ground.phase },{ on:=3,ground:=Go.Ground.phase },{ on:=4,ground:=Go.Ground.phase },{ on:=5,ground:=Go.Ground.phase },{ on:=6,ground:=Go.Ground.phase },{ on:=7,ground:=Go.Ground.phase },{ on:=8,ground:=Go.Ground.phase },{ on:=9,ground:=Go.Ground.phase },{ on:=10,ground:=Go.Ground.phase },{ on:=11,ground:=Go.Ground.phase },{ on:=12,ground:=Go.Ground.phase },{ on:=13,ground:=Go.Ground.phase },{ on:=14,ground:=Go.Ground.phase },{ on:=15,ground:=Go.Ground.phase },{ on:=16,ground:=Go.Ground.phase },{ on:=17,ground:=Go.Ground.phase },{ on:=18,ground:=Go.Ground.phase },{ on:=19,ground:=Go.Ground.phase },{ on:=20,ground:=Go.Ground.phase }],guard:=none }
set_option maxHeartbeats 2000000 in
theorem rsync_any (d:Nat) (G:Nat→Prop) (s:St) (w:World) (h:DAt w d G s) (hl:s.l.length≤1000000) :
  Calls Tryz.prog 55 #[.pointer (some ⟨d,0,none⟩)] w fun e w'=>e = .returned (.int .i64 (syE s))∧DSt w d G (syS s) w':=by
 have c3:w.cell? ⟨d,3,none⟩=some (.bool s.down):=by
  obtain⟨-,sg,sc,v,-,hr⟩:=h
  exact hr.c3
 unfold syE syS
 by_cases hd:s.down=true
 ·rw[if_pos hd,if_pos hd]
  rw[hd] at c3
  have FF:Hid (DSt w d G s w):=h.stays (Below.refl _ _)
  clear h hl hd
  go_enter Tryz.func55, Tryz.ntmps55
  go_wp2
  go_ret
  exact⟨rfl,FF.out⟩
 ·rw[if_neg hd,if_neg hd]
  have hd':s.down=false:=by simpa using hd
  rw[hd'] at c3
  have BN:Hid _:=rburns_any d G s hd' w h
  have HO:Hid (Ok s):=h.1
  by_cases hf:s.fuse=1
  ·rw[if_pos hf,if_pos hf]
   rw[decide_eq_true hf] at BN
   clear h hl hd hd' hf
   go_enter Tryz.func55, Tryz.ntmps55
   go_wp2_with fail
   refine Calls.mono BN.out ?_
   rintro e w2 ⟨rfl,h1,h2⟩
   have FF:Hid (DSt w d G (brnS s) w2):=⟨G,h1,Nx.refl _ _,h2⟩
   clear h1 h2 BN
   go_wp2
   go_ret
   exact⟨rfl,FF.out⟩
  ·rw[if_neg hf,if_neg hf]
   rw[decide_eq_false hf] at BN
   clear h hd hd' hf
   go_enter Tryz.func55, Tryz.ntmps55
   go_wp2_with fail
   refine Calls.mono BN.out ?_
   rintro e w1 ⟨rfl,h1,h2⟩
   obtain⟨-,sg,sc,v,rfl,hr⟩:=h1
   obtain⟨va,vc,rfl⟩:=ownsD_slice hr.row
   have I0:Hid (DRaw w1 d s.n (brnS s).down (brnS s).fuse s.f s.l sg sc (.slice va s.l.length vc)∧Bf (DFoot d sg (.slice va s.l.length vc)) w w1):=⟨hr,h2⟩
   obtain⟨n,hn⟩:∃n,s.l.length=n:=⟨_,rfl⟩
   have HN:Hid (s.l.length=n):=hn
   rw[hn] at I0 hl
   clear hr h2 BN hn c3
   go_wp2_with fail
   go_loopw [3] (fun i wr=>∃(k:Nat) (f:Nat→Bs),k≤n∧i = .int .i64 (k:Int)∧Hid (DRaw wr d s.n (brnS s).down (brnS s).fuse f s.l sg sc (.slice va n vc)∧Bf (DFoot d sg (.slice va n vc)) w wr∧lay f (s.l.drop k)=s.sh)) (fun i wr=>n - (intOf i).toNat)
   case atStart=>exact⟨0,s.f,Nat.zero_le _,rfl,I0.out.1,I0.out.2,rfl⟩
   case round =>
    obtain⟨k,f,hk,rfl,I⟩:=hrel
    clear I0
    have c1:=I.out.1.c1
    by_cases hlt:k < n
    ·have g1:(k:Int) < (n:Int):=by omega
     have hkl:k < s.l.length:=by have:=HN.out;omega
     obtain⟨g,rfl,og,x0,x1⟩:=ownsD_cells I.out.1.row k hkl
     obtain⟨x,hx⟩:∃x,s.l[k]=x:=⟨_,rfl⟩
     have hxk:x.k < s.n:=by rw[←hx];exact (HO.out.wk _ (List.getElem_mem hkl)).1
     rw[hx] at x0 x1
     have LY:Hid (lay (upd f x.k x.b) (s.l.drop (k+1))=s.sh):=by
      have:=I.out.2.2
      rw[List.drop_eq_getElem_cons hkl,hx,lay] at this
      exact this
     have c0:=I.out.1.c0
     have RA:Hid (DRaw (wr.drew.setCell ⟨sg,x.k,none⟩ (sv x.b)) d s.n (brnS s).down (brnS s).fuse (upd f x.k x.b) s.l sg sc (.slice (some ⟨g,0,none⟩) n vc)∧Bf (DFoot d sg (.slice (some ⟨g,0,none⟩) n vc)) w (wr.drew.setCell ⟨sg,x.k,none⟩ (sv x.b))) :=
      ⟨(I.out.1.later (Below.refl _ _).drew).setSafe x.k x.b,(I.out.2.1.later (Below.refl _ _).drew).trans (Nx.refl _ _) (Bf.set _ _ sg x.k _ (.inr (.inl rfl)))⟩
     have TH:Hid ((∃u,wr.drew.cell? ⟨sg,x.k,none⟩=some u)∧wr.drew.frozen? ⟨sg,x.k,none⟩=false):=⟨⟨_,(I.out.1.later (Below.refl _ _).drew).sr.c x.k hxk⟩,(I.out.1.later (Below.refl _ _).drew).sr.fr x.k⟩
     have SD:Hid (sg≠d):=I.out.1.ds
     have SG:Hid (sg≠g):=fun e=>I.out.1.sv (by rw[og,e])
     have G3:(x.k:Int) < ((s.n:Nat):Int):=by omega
     obtain⟨N,hN⟩:∃N,s.n=N:=⟨_,rfl⟩
     rw[hN] at c0 G3
     clear I og hx hxk
     go_upto_region 6 with fail
     refine wp_region_noPanic ?_
     refine wp_region_held_drew (S:=fun w'=>w'.cell? ⟨d,0,none⟩=some (.slice (some ⟨sg,0,none⟩) N sc)∧w'.cell? ⟨d,1,none⟩=some (.slice (some ⟨g,0,none⟩) n vc)∧w'.cell? ⟨g,k*2,none⟩=some (.int .i64 (x.k:Int))∧w'.cell? ⟨g,k*2+1,none⟩=some (sv x.b)) (by kernel_rfl) (⟨c0,c1,x0,x1⟩) (fun hHeld => ?_)
     obtain⟨Z,hZ⟩:∃Z,wr.drew=Z:=⟨_,rfl⟩
     rw[hZ] at hHeld RA TH ⊢
     clear c0 c1 x0 x1 hZ
     refine wT 0 oprs0 ?_ ?_ ?_;rotate_left
     ·intro w' hSw;clear hSw;unfold oprs0;first|(go_simp;done)|(go_simp;with_reducible rfl)
     simp only[oprs0,Act.put,wA,wB,wC]
     refine wT 1 oprs1 ?_ ?_ ?_;rotate_left
     ·intro w' hSw;clear hSw;unfold oprs1;first|(go_simp;done)|(go_simp;with_reducible rfl)
     simp only[oprs1,Act.put,wA,wB,wC]
     refine wT 2 oprs2 ?_ ?_ ?_;rotate_left
     ·intro w' hSw;clear hSw;unfold oprs2;first|(go_simp;done)|(go_simp;with_reducible rfl)
     simp only[oprs2,Act.put,wA,wB,wC]
     refine wT 3 oprs3 ?_ ?_ ?_;rotate_left
     ·intro w' hSw;obtain⟨s0,s1,s2,s3⟩:=hSw;unfold oprs3;first|(go_simp;done)|(go_simp;with_reducible rfl)
     simp only[oprs3,Act.put,wA,wB,wC]
     refine wT 4 oprs4 ?_ ?_ ?_;rotate_left
     ·intro w' hSw;clear hSw;unfold oprs4;first|(go_simp;done)|(go_simp;with_reducible rfl)
     simp only[oprs4,Act.put,wA,wB,wC]
     refine wT 5 oprs5 ?_ ?_ ?_;rotate_left
     ·intro w' hSw;clear hSw;unfold oprs5;first|(go_simp;done)|(go_simp;with_reducible rfl)
     simp only[oprs5,Act.put,wA,wB,wC]
     refine wT 6 oprs6 ?_ ?_ ?_;rotate_left
     ·intro w' hSw;clear hSw;unfold oprs6;first|(go_simp;done)|(go_simp;with_reducible rfl)
     simp only[oprs6,Act.put,wA,wB,wC]
     refine wT 7 oprs7 ?_ ?_ ?_;rotate_left
     ·intro w' hSw;obtain⟨s0,s1,s2,s3⟩:=hSw;unfold oprs7;first|(go_simp;done)|(go_simp;with_reducible rfl)
     simp only[oprs7,Act.put,wA,wB,wC]
     refine wT 8 oprs8 ?_ ?_ ?_;rotate_left
     ·intro w' hSw;clear hSw;unfold oprs8;first|(go_simp;done)|(go_simp;with_reducible rfl)
     simp only[oprs8,Act.put,wA,wB,wC]
     refine wT 9 oprs9 ?_ ?_ ?_;rotate_left
     ·intro w' hSw;clear hSw;unfold oprs9;first|(go_simp;done)|(go_simp;with_reducible rfl)
     simp only[oprs9,Act.put,wA,wB,wC]
     refine wT 10 oprs10 ?_ ?_ ?_;rotate_left
     ·intro w' hSw;clear hSw;unfold oprs10;first|(go_simp;done)|(go_simp;with_reducible rfl)
     simp only[oprs10,Act.put,wA,wB,wC]
     refine wT 11 oprs11 ?_ ?_ ?_;rotate_left
     ·intro w' hSw;obtain⟨s0,s1,s2,s3⟩:=hSw;unfold oprs11;first|(go_simp;done)|(go_simp;with_reducible rfl)
     simp only[oprs11,Act.put,wA,wB,wC]
     refine wT 12 oprs12 ?_ ?_ ?_;rotate_left
     ·intro w' hSw;clear hSw;unfold oprs12;first|(go_simp;done)|(go_simp;with_reducible rfl)
     simp only[oprs12,Act.put,wA,wB,wC]
     refine wT 13 oprs13 ?_ ?_ ?_;rotate_left
     ·intro w' hSw;clear hSw;unfold oprs13;first|(go_simp;done)|(go_simp;with_reducible rfl)
     simp only[oprs13,Act.put,wA,wB,wC]
     refine wT 14 oprs14 ?_ ?_ ?_;rotate_left
     ·intro w' hSw;clear hSw;unfold oprs14;first|(go_simp;done)|(go_simp;with_reducible rfl)
     simp only[oprs14,Act.put,wA,wB,wC]
     refine wT 15 oprs15 ?_ ?_ ?_;rotate_left
     ·intro w' hSw;obtain⟨s0,s1,s2,s3⟩:=hSw;unfold oprs15;first|(go_simp;done)|(go_simp;with_reducible rfl)
     simp only[oprs15,Act.put,wA,wB,wC]
     refine wT 16 oprs16 ?_ ?_ ?_;rotate_left
     ·intro w' hSw;clear hSw;unfold oprs16;first|(go_simp;done)|(go_simp;with_reducible rfl)
     simp only[oprs16,Act.put,wA,wB,wC]
     refine wT 17 oprs17 ?_ ?_ ?_;rotate_left
     ·intro w' hSw;clear hSw;unfold oprs17;first|(go_simp;done)|(go_simp;with_reducible rfl)
     simp only[oprs17,Act.put,wA,wB,wC]
     refine wT 18 oprs18 ?_ ?_ ?_;rotate_left
     ·intro w' hSw;clear hSw;unfold oprs18;first|(go_simp;done)|(go_simp;with_reducible rfl)
     simp only[oprs18,Act.put,wA,wB,wC]
     refine wT 19 oprs19 ?_ ?_ ?_;rotate_left
     ·intro w' hSw;obtain⟨s0,s1,s2,s3⟩:=hSw;unfold oprs19;first|(go_simp;done)|(go_simp;with_reducible rfl)
     simp only[oprs19,Act.put,wA,wB,wC]
     refine wT 20 oprs20 ?_ ?_ ?_;rotate_left
     ·intro w' hSw;clear hSw;unfold oprs20;first|(go_simp;done)|(go_simp;with_reducible rfl)
     simp only[oprs20,Act.put,wA,wB,wC]
     refine wpAnyH_ready (rs:=[21]) (by kernel_rfl) (by simp) ?_
     refine AllReadyH.cons (o:=oprs21) rfl (fun KK hKK => ?_) AllReadyH.nil
     obtain⟨⟨u,sc1⟩,sf1⟩:=TH.out
     unfold oprs21
     go_simp
     refine hKK.out _ _ ⟨cell_setCell hHeld.1 SD.out,cell_setCell hHeld.2.1 SD.out,cell_setCell hHeld.2.2.1 SG.out,cell_setCell hHeld.2.2.2 SG.out⟩ (fun hHeldS => ?_)
     clear hKK KK hHeldS hHeld sc1 sf1
     refine wpAnyH_done (by kernel_rfl) ?_ _
     refine NoPanic.normal ?_
     all_goals (go_wp2;go_roundw)
     case rel=>exact⟨k+1,upd f x.k x.b,by omega,by go_num,RA.out.1,RA.out.2,LY.out⟩
     case measure=>simp[intOf];omega
    ·obtain rfl:k=n:=by omega
     have e0:f=s.sh:=by
      have:=I.out.2.2
      rw[List.drop_of_length_le (by have:=HN.out;omega),lay] at this
      exact this
     subst e0
     have R2:=I.out.1.setRow (w1:=wr) (Below.refl _ _) (u := .slice none 0 0) (m:=[]) (World.ownsRow_nil _ _ _ _) (fun g e=>by cases e)
     have FF:Hid (DSt w d (DFoot d sg (.slice va k vc)) { brnS s with f:=s.sh,l:=[] } (wr.setCell ⟨d,1,none⟩ (.slice none 0 0))):=by
      refine⟨_,⟨⟨HO.out.n1,HO.out.n2,HO.out.sh64,nofun,HO.out.brn.fu⟩,sg,sc,_,rfl,R2.1⟩,?_,I.out.2.1.trans (Nx.refl _ _) R2.2.2⟩
      exact (Nx.refl w _).trans R2.2.1 I.out.2.1.size
     have f1:=I.out.1.fr 1
     clear I R2
     go_wp2
     go_ret
     refine⟨rfl,?_⟩
     have e:(brnS s).l.length=k:=HN.out
     rw[e]
     exact FF.out
set_option maxHeartbeats 4000000 in
theorem rcrash_any (d:Nat) (G:Nat→Prop) (s:St) (pa:Option Addr) (pn pc:Nat) (ps:List Int) (hpn:ps.length=pn) (w:World) (h:DAt w d G s) (hl:s.l.length≤1000000) (hp:IntAt w pa ps) (hF:∀x,pa=some x→0 < ps.length→¬G x.block) :
  Calls Tryz.prog 51 #[.pointer (some ⟨d,0,none⟩),.slice pa pn pc] w fun e w'=>e = .returned (.int .i64 0)∧DSt w d G (crS s ps) w':=by
 have HO:Hid (Ok s):=h.1
 have HP:Hid (IntAt w pa ps):=hp
 have HF:Hid (∀x,pa=some x→0 < ps.length→¬G x.block):=hF
 have HPN:Hid (ps.length=pn):=hpn
 obtain⟨-,sg,sc,v,rfl,hr⟩:=h
 obtain⟨va,vc,rfl⟩:=ownsD_slice hr.row
 have I0:Hid (DRaw w d s.n s.down s.fuse s.f s.l sg sc (.slice va s.l.length vc)):=hr
 obtain⟨n,hn⟩:∃n,s.l.length=n:=⟨_,rfl⟩
 have HN:Hid (s.l.length=n):=hn
 rw[hn] at I0 hl HF ⊢
 clear hr hp hF hn hpn
 obtain⟨T,hT⟩:∃T,tear ps s.f s.l 0=T:=⟨_,rfl⟩
 have HT:Hid (tear ps s.f s.l 0=T):=hT
 clear hT
 go_enter Tryz.func51, Tryz.ntmps51
 go_wp2_with fail
 go_loopw [5] (fun i wr=>∃(k:Nat) (f:Nat→Bs),k≤n∧i = .int .i64 (k:Int)∧Hid (DRaw wr d s.n s.down s.fuse f s.l sg sc (.slice va n vc)∧Bf (DFoot d sg (.slice va n vc)) w wr∧tear ps f (s.l.drop k) k=T∧∀j,(f j).length=64)) (fun i wr=>n - (intOf i).toNat)
 case atStart=>exact⟨0,s.f,Nat.zero_le _,rfl,I0.out,Bf.refl _ _,HT.out,HO.out.f64⟩
 case round =>
  obtain⟨k,f,hk,rfl,I⟩:=hrel
  clear I0
  have c1:=I.out.1.c1
  by_cases hlt:k < n
  ·have g1:(k:Int) < (n:Int):=by omega
   have hkl:k < s.l.length:=by have:=HN.out;omega
   go_upto_region 5 with fail
   go_cut [20] (fun s20 wx=>s20 = .bool (decide (k < pn))∧wr=wx)
   case first =>
    by_cases hai:k < pn
    ·have g3:(k:Int) < (pn:Int):=by omega
     go_wp2_with fail
     go_meet
     case rel=>exact⟨by rw[decide_eq_true hai],rfl⟩
    ·have g3:¬(k:Int) < (pn:Int):=by omega
     go_wp2_with fail
     go_meet
     case rel=>exact⟨by rw[decide_eq_false hai],rfl⟩
   case rest =>
    obtain⟨rfl,hwx⟩:=hcut
    subst hwx
    go_upto_if 20 with fail
    go_cut [6] (fun s6 wx=>∃m:Nat,pkAt ps k=m∧s6 = .int .i64 (m:Int)∧wr=wx)
    case first =>
     by_cases hai:k < pn
     ·rw[decide_eq_true hai]
      have g3:(k:Int) < (pn:Int):=by omega
      have hpl:k < ps.length:=by have:=HPN.out;omega
      obtain⟨b,o,rfl,y0⟩:=(HP.out.kept I.out.2.1 HF.out) k hpl
      have hpk2:pkAt ps k=pk ps[k]:=dif_pos hpl
      obtain⟨y,hy⟩:∃y,ps[k]=y:=⟨_,rfl⟩
      rw[hy] at y0 hpk2
      have hN:(0:Int) < 65:=by decide
      have r1:=Int.tmod_lt_of_pos y hN
      have r2:=Int.lt_tmod_of_pos y hN
      have hpq:=pk_eq y
      have hlq:=pk_lt y
      obtain⟨r,hr⟩:∃r,Int.tmod y 65=r:=⟨_,rfl⟩
      rw[hr] at r1 r2 hpq
      have z1:IntKind.i64.wrap (Int.tmod y 65)=r:=by rw[hr,IntKind.wrap_i64];omega
      have z2:IntKind.i64.wrap (r+65)=r+65:=by rw[IntKind.wrap_i64];omega
      have z3:IntKind.i64.wrap (Int.tmod (r+65) 65)=(r+65).tmod 65:=by rw[hpq,IntKind.wrap_i64];omega
      have HPQ:Hid ((r+65).tmod 65=(pk y:Int)):=hpq
      have HPK:Hid (pkAt ps k=pk y):=hpk2
      clear r1 r2 hN hpq hlq hpk2 hy I c1
      go_wp2
      go_meet
      case rel=>exact⟨pk y,HPK.out,by rw[←HPQ.out],rfl⟩
     ·rw[decide_eq_false hai]
      have hpk2:pkAt ps k=0:=dif_neg (by have:=HPN.out;omega)
      have HPK:Hid (pkAt ps k=0):=hpk2
      clear hpk2
      go_wp2
      go_meet
      case rel=>exact⟨0,HPK.out,rfl,rfl⟩
    case rest =>
     obtain⟨m,hm,rfl,hwx⟩:=hcut
     subst hwx
     have hm65:m < 65:=by rw[←hm];exact pkAt_lt ps k
     obtain⟨g,rfl,og,x0,x1⟩:=ownsD_cells I.out.1.row k hkl
     obtain⟨x,hx⟩:∃x,s.l[k]=x:=⟨_,rfl⟩
     have hxk:x.k < s.n:=by rw[←hx];exact (HO.out.wk _ (List.getElem_mem hkl)).1
     have h64:x.b.length=64:=by rw[←hx];exact (HO.out.wk _ (List.getElem_mem hkl)).2
     rw[hx] at x0 x1
     have LY:Hid (tear ps (upd f x.k (mix m x.b (f x.k))) (s.l.drop (k+1)) (k+1)=T):=by
      have:=I.out.2.2.1
      rw[List.drop_eq_getElem_cons hkl,hx,tear,hm] at this
      exact this
     have J1:Hid (DRaw (wr.alloc (.cells #[.int .i64 (x.k:Int),sv x.b] 98)) d s.n s.down s.fuse f s.l sg sc (.slice (some ⟨g,0,none⟩) n vc)∧Bf (DFoot d sg (.slice (some ⟨g,0,none⟩) n vc)) w (wr.alloc (.cells #[.int .i64 (x.k:Int),sv x.b] 98))):=⟨I.out.1.later ((Below.refl _ _).alloc (Nat.le_refl _) _),I.out.2.1.later ((Below.refl _ _).alloc (Nat.le_refl _) _)⟩
     have F64:=I.out.2.2.2 x.k
     have M64:Hid (∀j,(upd f x.k (mix m x.b (f x.k)) j).length=64):=upd_64 I.out.2.2.2 _ (mix_len hm65 h64 F64)
     have NB:Hid (∀q,DFoot d sg (.slice (some ⟨g,0,none⟩) n vc) q→q≠wr.heap.size):=fun q hq=>Nat.ne_of_lt (I.out.1.lt hq)
     clear I og hx
     go_upto_region 8 with fail
     obtain⟨B,hB⟩:∃B,wr.heap.size=B:=⟨_,rfl⟩
     have b0:(wr.alloc (.cells #[.int .i64 (x.k:Int),sv x.b] 98)).cell? ⟨B,0,none⟩=some (.int .i64 (x.k:Int)):=by rw[←hB];simp[go_sem]
     have b1:(wr.alloc (.cells #[.int .i64 (x.k:Int),sv x.b] 98)).cell? ⟨B,1,none⟩=some (sv x.b):=by rw[←hB];simp[go_sem]
     obtain⟨W,hW⟩:∃W,wr.alloc (.cells #[.int .i64 (x.k:Int),sv x.b] 98)=W:=⟨_,rfl⟩
     rw[hB] at NB ⊢
     rw[hW] at J1 b0 b1 ⊢
     have c0:=J1.out.1.c0
     have C9:Hid (W.drew.cell? ⟨sg,x.k,none⟩=some (sv (f x.k))∧W.drew.frozen? ⟨sg,x.k,none⟩=false):=⟨(J1.out.1.later (Below.refl _ _).drew).sr.c x.k hxk,(J1.out.1.later (Below.refl _ _).drew).sr.fr x.k⟩
     have RA:Hid (DRaw (W.drew.setCell ⟨sg,x.k,none⟩ (sv (mix m x.b (f x.k)))) d s.n s.down s.fuse (upd f x.k (mix m x.b (f x.k))) s.l sg sc (.slice (some ⟨g,0,none⟩) n vc)∧Bf (DFoot d sg (.slice (some ⟨g,0,none⟩) n vc)) w (W.drew.setCell ⟨sg,x.k,none⟩ (sv (mix m x.b (f x.k))))) :=
      ⟨(J1.out.1.later (Below.refl _ _).drew).setSafe x.k _,(J1.out.2.later (Below.refl _ _).drew).trans (Nx.refl _ _) (Bf.set _ _ sg x.k _ (.inr (.inl rfl)))⟩
     have SD:Hid (sg≠d):=J1.out.1.ds
     have SB:Hid (sg≠B):=NB.out sg (.inr (.inl rfl))
     have G3:(x.k:Int) < ((s.n:Nat):Int):=by omega
     obtain⟨N,hN⟩:∃N,s.n=N:=⟨_,rfl⟩
     rw[hN] at c0 G3
     have gm:(m:Int)≤64:=by omega
     obtain⟨y,hy⟩:∃y,f x.k=y:=⟨_,rfl⟩
     have hye:mix m x.b (f x.k)=mix m x.b y:=by rw[hy]
     rw[hye] at RA LY M64
     rw[hy] at C9 F64
     have sX:(st x.b).size=64:=by rw[st_size];exact h64
     have sY:(st y).size=64:=by rw[st_size];exact F64
     have z1:¬9223372036854775807 < min m 64+(64 - m):=by omega
     have MX:Hid ((st x.b).extract 0 m++(st y).extract m 64=st (mix m x.b y)):=by
      rw[st_cut x.b 0 m,st_cut y m 64,st_app,List.drop_zero,List.take_of_length_le (l:=y) (by rw[F64];omega)]
      exact rfl
     clear J1 NB hB hW h64 F64 hye x0 x1 c1
     refine wp_region_noPanic ?_
     refine wp_region_held_drew (S:=fun w'=>w'.cell? ⟨d,0,none⟩=some (.slice (some ⟨sg,0,none⟩) N sc)∧w'.cell? ⟨B,0,none⟩=some (.int .i64 (x.k:Int))∧w'.cell? ⟨B,1,none⟩=some (sv x.b)) (by kernel_rfl) (⟨c0,b0,b1⟩) (fun hHeld => ?_)
     obtain⟨Z,hZ⟩:∃Z,W.drew=Z:=⟨_,rfl⟩
     rw[hZ] at hHeld RA C9 ⊢
     clear c0 b0 b1 hZ
     refine wT 0 oprc0 ?_ ?_ ?_;rotate_left
     ·intro w' hSw;clear hSw;unfold oprc0;first|(go_simp;done)|(go_simp;with_reducible rfl)
     simp only[oprc0,Act.put,wA,wB,wC]
     refine wT 1 oprc1 ?_ ?_ ?_;rotate_left
     ·intro w' hSw;clear hSw;unfold oprc1;first|(go_simp;done)|(go_simp;with_reducible rfl)
     simp only[oprc1,Act.put,wA,wB,wC]
     refine wT 2 oprc2 ?_ ?_ ?_;rotate_left
     ·intro w' hSw;clear hSw;unfold oprc2;first|(go_simp;done)|(go_simp;with_reducible rfl)
     simp only[oprc2,Act.put,wA,wB,wC]
     refine wT 3 oprc3 ?_ ?_ ?_;rotate_left
     ·intro w' hSw;obtain⟨s0,s1,s2⟩:=hSw;unfold oprc3;first|(go_simp;done)|(go_simp;with_reducible rfl)
     simp only[oprc3,Act.put,wA,wB,wC]
     refine wT 4 oprc4 ?_ ?_ ?_;rotate_left
     ·intro w' hSw;clear hSw;unfold oprc4;first|(go_simp;done)|(go_simp;with_reducible rfl)
     simp only[oprc4,Act.put,wA,wB,wC]
     refine wT 5 oprc5 ?_ ?_ ?_;rotate_left
     ·intro w' hSw;obtain⟨s0,s1,s2⟩:=hSw;unfold oprc5;first|(go_simp;done)|(go_simp;with_reducible rfl)
     simp only[oprc5,Act.put,wA,wB,wC]
     refine wT 6 oprc6 ?_ ?_ ?_;rotate_left
     ·intro w' hSw;clear hSw;unfold oprc6;first|(go_simp;done)|(go_simp;with_reducible rfl)
     simp only[oprc6,Act.put,wA,wB,wC]
     refine wT 7 oprc7 ?_ ?_ ?_;rotate_left
     ·intro w' hSw;obtain⟨s0,s1,s2⟩:=hSw;unfold oprc7;first|(go_simp;done)|(go_simp;with_reducible rfl)
     simp only[oprc7,Act.put,wA,wB,wC]
     refine wT 8 oprc8 ?_ ?_ ?_;rotate_left
     ·intro w' hSw;clear hSw;unfold oprc8;first|(go_simp;done)|(go_simp;with_reducible rfl)
     simp only[oprc8,Act.put,wA,wB,wC]
     refine wT 9 oprc9 ?_ ?_ ?_;rotate_left
     ·intro w' hSw;clear hSw;unfold oprc9;first|(go_simp;done)|(go_simp;with_reducible rfl)
     simp only[oprc9,Act.put,wA,wB,wC]
     refine wT 10 oprc10 ?_ ?_ ?_;rotate_left
     ·intro w' hSw;clear hSw;unfold oprc10;first|(go_simp;done)|(go_simp;with_reducible rfl)
     simp only[oprc10,Act.put,wA,wB,wC]
     refine wT 11 oprc11 ?_ ?_ ?_;rotate_left
     ·intro w' hSw;clear hSw;unfold oprc11;first|(go_simp;done)|(go_simp;with_reducible rfl)
     simp only[oprc11,Act.put,wA,wB,wC]
     refine wT 12 oprc12 ?_ ?_ ?_;rotate_left
     ·intro w' hSw;clear hSw;unfold oprc12;first|(go_simp;done)|(go_simp;with_reducible rfl)
     simp only[oprc12,Act.put,wA,wB,wC]
     refine wT 13 oprc13 ?_ ?_ ?_;rotate_left
     ·intro w' hSw;obtain⟨s0,s1,s2⟩:=hSw;unfold oprc13;first|(go_simp;done)|(go_simp;with_reducible rfl)
     simp only[oprc13,Act.put,wA,wB,wC]
     refine wT 14 oprc14 ?_ ?_ ?_;rotate_left
     ·intro w' hSw;clear hSw;unfold oprc14;first|(go_simp;done)|(go_simp;with_reducible rfl)
     simp only[oprc14,Act.put,wA,wB,wC]
     refine wT 15 oprc15 ?_ ?_ ?_;rotate_left
     ·intro w' hSw;obtain⟨s0,s1,s2⟩:=hSw;unfold oprc15;first|(go_simp;done)|(go_simp;with_reducible rfl)
     simp only[oprc15,Act.put,wA,wB,wC]
     refine wT 16 oprc16 ?_ ?_ ?_;rotate_left
     ·intro w' hSw;clear hSw;unfold oprc16;first|(go_simp;done)|(go_simp;with_reducible rfl)
     simp only[oprc16,Act.put,wA,wB,wC]
     refine wT 18 oprc18 ?_ ?_ ?_;rotate_left
     ·intro w' hSw;clear hSw;unfold oprc18;first|(go_simp;done)|(go_simp;with_reducible rfl)
     simp only[oprc18,Act.put,wA,wB,wC]
     refine wpAnyH_ready (rs:=[17]) (by kernel_rfl) (by simp) ?_
     refine AllReadyH.cons (o:=oprc17) rfl (fun KK hKK => ?_) AllReadyH.nil
     have lc:=C9.out.1
     unfold oprc17
     go_simp
     refine hKK.out _ _ hHeld (fun hHeldL => ?_)
     clear hKK KK lc hHeldL
     refine wT 19 oprc19 ?_ ?_ ?_;rotate_left
     ·intro w' hSw;clear hSw;unfold oprc19;first|(go_simp;done)|(go_simp;with_reducible rfl)
     simp only[oprc19,Act.put,wA,wB,wC]
     refine wT 20 oprc20 ?_ ?_ ?_;rotate_left
     ·intro w' hSw;clear hSw;unfold oprc20;first|(go_simp;done)|(go_simp;with_reducible rfl)
     simp only[oprc20,Act.put,wA,wB,wC]
     refine wT 21 oprc21 ?_ ?_ ?_;rotate_left
     ·intro w' hSw;clear hSw;unfold oprc21;first|(go_simp;done)|(go_simp;with_reducible rfl)
     simp only[oprc21,Act.put,wA,wB,wC]
     refine wpAnyH_ready (rs:=[22]) (by kernel_rfl) (by simp) ?_
     refine AllReadyH.cons (o:=oprc22) rfl (fun KK hKK => ?_) AllReadyH.nil
     have lc:=C9.out.1
     have lf:=C9.out.2
     unfold oprc22
     go_simp
     rw[MX.out]
     refine hKK.out _ _ ⟨cell_setCell hHeld.1 SD.out,cell_setCell hHeld.2.1 SB.out,cell_setCell hHeld.2.2 SB.out⟩ (fun hHeldS => ?_)
     clear hKK KK hHeldS hHeld lc lf
     refine wpAnyH_done (by kernel_rfl) ?_ _
     refine NoPanic.normal ?_
     all_goals (go_wp2;go_roundw)
     case rel=>exact⟨k+1,_,by omega,by go_num,RA.out.1,RA.out.2,LY.out,M64.out⟩
     case measure=>simp[intOf];omega
  ·obtain rfl:k=n:=by omega
   have e0:f=T:=by
    have:=I.out.2.2.1
    rw[List.drop_of_length_le (by have:=HN.out;omega),tear] at this
    exact this
   subst e0
   have R2:=I.out.1.setRow (w1:=wr) (Below.refl _ _) (u := .slice none 0 0) (m:=[]) (World.ownsRow_nil _ _ _ _) (fun g e=>by cases e)
   have R3:=(R2.1.setFuse 0).setDown false
   have B3:Bf (DFoot d sg (.slice va k vc)) w (((wr.setCell ⟨d,1,none⟩ (.slice none 0 0)).setCell ⟨d,2,none⟩ (.int .i64 0)).setCell ⟨d,3,none⟩ (.bool false)):=((I.out.2.1.trans (Nx.refl _ _) R2.2.2).trans (Nx.refl _ _) (Bf.set _ _ d 2 _ (.inl rfl))).trans (Nx.refl _ _) (Bf.set _ _ d 3 _ (.inl rfl))
   have FF:Hid (DSt w d (DFoot d sg (.slice va k vc)) (crS s ps) (((wr.setCell ⟨d,1,none⟩ (.slice none 0 0)).setCell ⟨d,2,none⟩ (.int .i64 0)).setCell ⟨d,3,none⟩ (.bool false))):=by
    refine⟨_,⟨HO.out.cr ps,sg,sc,.slice none 0 0,rfl,?_⟩,(Nx.refl w _).trans R2.2.1 I.out.2.1.size,B3⟩
    have e2:(crS s ps).f=f:=HT.out
    rw[e2]
    exact R3
   have c2:=I.out.1.c2
   have c3:=I.out.1.c3
   have f1:=I.out.1.fr 1
   have f2:=I.out.1.fr 2
   have f3:=I.out.1.fr 3
   clear I R2 R3 B3
   go_wp2
   go_ret
   exact⟨rfl,FF.out⟩
end Go.Proofs.YtjpaodepnacimaaGreatDoor
