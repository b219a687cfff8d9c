/- A part of the walk. -/
import Derived.Test.YtjcppbhgjchjaaaGreatDoorZr2G30
set_option maxHeartbeats 8000000
set_option maxRecDepth 20000
namespace Go.Proofs.YtjcppbhgjchjaaaGreatDoor.Sto
open Go.RowKit Go.Proofs.Fd Go.Proofs.Dk Go.Proofs.Lg
theorem zvc {s:St} (h:Ok s) (k:Nat):∀(H j:Nat),j < H->((hb s k H).drop (64*j)).take 64=s.sh (k+j):=fun H j hj=>by
 obtain⟨d,rfl⟩:∃d,H=j+(1+d):=⟨H - j - 1,by omega⟩;rw[zqZ,zqZ,List.drop_left' (zeB h k j)];have e:hb s (k+j) 1=s.sh (k+j):=by simp[hb]
 rw[e,List.take_left' (h.sh64 _)]
theorem zhH (s:St) (k:Nat) (b:Bs) (hb:b.length=64):wrb s k b=(wrE s (k:Int) b,wrS s (k:Int) b):=by
 have e:chs (b.length / 64) b=[b]:=by
  rw[hb];show [b.take 64]=[b]
  rw[List.take_of_length_le (by omega)]
 rw[wrb,e,wrs];by_cases h:wrE s (k:Int) b=0
 ·rw[zaB h,wrs,h]
 ·rw[zaS h]
theorem zpB {s:St} {k j m:Nat} {d:Bool} (hj:j < m) (hz:s.sh (k+j)=zr 64):cls s (k+j) (m - j) d=cls s (k+(j+1)) (m - (j+1)) d:=by
 obtain⟨q,hq⟩:∃q,m - j=q+1:=⟨m - j - 1,by omega⟩;rw[hq,cls,if_pos hz,show m - (j+1)=q by omega];rfl
theorem zpC {s:St} {k j m:Nat} {d:Bool} (hj:j < m) (hz:s.sh (k+j)≠zr 64):cls s (k+j) (m - j) d=thn (wrb s (k+j) (zr 64)) fun s'=>cls s' (k+(j+1)) (m - (j+1)) true:=by
 obtain⟨q,hq⟩:∃q,m - j=q+1:=⟨m - j - 1,by omega⟩;rw[hq,cls,if_neg hz,show m - (j+1)=q by omega,zhH s (k+j) (zr 64) (zcN 64)];rfl
theorem zvd (s:St) (k:Nat) (b:Bs) (j:Nat) (hj:j≠k):(wrS s (k:Int) b).sh j=s.sh j:=by
 unfold wrS
 split
 ·rfl
 ·split
  ·rfl
  ·split
   ·rfl
   ·show lay s.f (s.l++[⟨(k:Int).toNat,b⟩]) j=lay s.f s.l j
    rw[zfj,Int.toNat_natCast,upd_other _ _ hj]
structure Ck (w va:World) (p:Nat) (F:Nat->Prop) (s:St) (q fr mn g:Nat) (v:Value) (ts:List Bs) (tk:Nat) (m:Bs) (more:List Value) (r:Int×St) (j:Nat) (d:Bool) (wr:World) (F':Nat->Prop) (s':St):Prop where
 hd:HD w wr p F' s' q fr mn g v ts tk m more
 nx:Nx va F F'
 bf:Bf F va wr
 ln:s'.l.length<=s.l.length+(j - tk)
 eq:r=cls s' (fr+j) (mn - j) d
 sh:∀i,j<=i->s'.sh (fr+i)=s.sh (fr+i)
section
variable {w va:World} {p:Nat} {F:Nat->Prop} {s:St} {q fr mn g:Nat} {v:Value} {ts:List Bs} {tk:Nat} {m:Bs} {more:List Value} {r:Int×St} {j:Nat} {d:Bool} {wr:World} {F':Nat->Prop} {s':St}
theorem Ck.later (h:Ck w va p F s q fr mn g v ts tk m more r j d wr F' s') {w':World} (hb:Bw wr w'):Ck w va p F s q fr mn g v ts tk m more r j d w' F' s':=⟨h.hd.later hb,h.nx,h.bf.later hb,h.ln,h.eq,h.sh⟩
theorem Ck.skip (h:Ck w va p F s q fr mn g v ts tk m more r j d wr F' s') (hj:j < mn) (hz:s.sh (fr+j)=zr 64):Ck w va p F s q fr mn g v ts tk m more r (j+1) d wr F' s' :=
 ⟨h.hd,h.nx,h.bf,by have:=h.ln;omega,h.eq.trans (zpB hj ((h.sh j (Nat.le_refl _)).trans hz)),fun i hi=>h.sh i (by omega)⟩
theorem Ck.ds (h:Ck w va p F s q fr mn g v ts tk m more r j d wr F' s'):Ds w va p F s' wr:=⟨F',h.hd.dl,h.nx,h.bf⟩
end
theorem zpD {a b:Bs} (h:a≠b):((st a).toList == (st b).toList)=false:=beq_eq_false_iff_ne.2 fun e=>h (by
 have:=zk1 e;have:=congrArg (fun x:Ba=>x.data.toList) this;exact this)
theorem zw8 {wa wb:World} {q:Nat} {x0 x1 x2:Value} (hb:Bw wa wb) (h:wa.cell? ⟨q,0,none⟩=some x0/\wa.cell? ⟨q,1,none⟩=some x1/\wa.cell? ⟨q,2,none⟩=some x2) :
  wb.cell? ⟨q,0,none⟩=some x0/\wb.cell? ⟨q,1,none⟩=some x1/\wb.cell? ⟨q,2,none⟩=some x2:=⟨cell_later hb h.1,cell_later hb h.2.1,cell_later hb h.2.2⟩
theorem zve {w wa wb:World} {p:Nat} {F:Nat->Prop} {s:St} {q:Nat} {x0 x1 x2:Value} (hq:¬F q) (hd:Ds w wa p F s wb) (h:wa.cell? ⟨q,0,none⟩=some x0/\wa.cell? ⟨q,1,none⟩=some x1/\wa.cell? ⟨q,2,none⟩=some x2) :
  wb.cell? ⟨q,0,none⟩=some x0/\wb.cell? ⟨q,1,none⟩=some x1/\wb.cell? ⟨q,2,none⟩=some x2:=by
 obtain⟨F',-,-,hb⟩:=hd;exact⟨hb.cell h.1 hq,hb.cell h.2.1 hq,hb.cell h.2.2 hq⟩
theorem zeF (w va:World) (p:Nat) (F:Nat->Prop) (s:St) (q fr mn g:Nat) (v:Value) (ts:List Bs) (tk:Nat) (m:Bs) (more:List Value) (h1:1<=mn) (h2:fr+mn<=s.n) (h3:tk<=mn) (hl:s.l.length+mn+1<=1000000) (h:Hid (HD w va p F s q fr mn g v ts tk m more)) :
  Cl 141 #[.pointer (some ⟨q,0,none⟩)] va fun e w'=>e = .returned (.int .i64 (cln s (fr+tk) (mn - tk)).1)/\Ds w va p F (cln s (fr+tk) (mn - tk)).2 w':=by
 have OK:=h.out.dl.at_.1;have hn:=OK.n2;have RD:Hid _:=zdZ w va p F s fr mn h1 h2 h.out.dl;have k0:=h.out.hf.bk.c 0 _ rfl;have k1:=h.out.hf.bk.c 1 _ rfl;have k2:=h.out.hf.bk.c 2 _ rfl;have gm:mn<=1024:=by omega
 have gf:fr<=1024:=by omega
 by_cases hd:s.down=true
 ·have e1:cln s (fr+tk) (mn - tk)=(150,s):=if_pos hd
  have e2:rdA s fr mn = .tuple #[.string ⟨#[]⟩,.int .i64 150]:=if_pos hd;rw[e1];rw[e2] at RD;clear e1 e2 OK hd;unfold plc at RD;go_enter Tryz.func141, Tryz.ntmps141;go_wp2_with fail;refine Calls.mono RD.out ?_;rintro e w1 ⟨rfl,hb⟩;have FF:Hid (Ds w va p F s w1):=⟨F,h.out.dl.later hb,Nx.refl _ _,Bf.of hb⟩;clear hb h k0 k1 k2 RD;go_wp2;go_ret;exact⟨rfl,FF.out⟩
 ·obtain⟨r,hr⟩:∃r,cln s (fr+tk) (mn - tk)=r:=⟨_,rfl⟩
  have e1:r=cls s (fr+tk) (mn - tk) false:=by rw[<-hr];exact if_neg hd
  have e2:rdA s fr mn = .tuple #[.string (st (hb s fr mn)),.int .i64 0]:=if_neg hd;rw[hr];rw[e2] at RD;have CUT:Hid (∀j,j < mn->(st (hb s fr mn)).extract (64*j) (64*j+64)=st (s.sh (fr+j))):=fun j hj=>by
   rw[zdU,List.drop_take,show 64*j+64 - 64*j=64 by omega,zvc OK fr mn j hj]
  have HS:Hid ((st (hb s fr mn)).size=64*mn):=by
   show _=_;rw[zai,zeB OK]
  have I0:Hid (∀W,Bw va W->Ck w va p F s q fr mn g v ts tk m more r tk false W F s):=fun W hb=>⟨h.out.later hb,Nx.refl _ _,Bf.of hb,Nat.le_add_right _ _,e1,fun _ _=>rfl⟩
  have HL:Hid (s.l.length+mn+1<=1000000):=hl;have ZR:Hid (∀W,Cl 221 #[.int .i64 64] W fun e w'=>e = .returned (.string (st (zr 64)))/\Bw W w'):=zeC 64 (by decide);obtain⟨X,hX⟩:∃X,st (hb s fr mn)=X:=⟨_,rfl⟩;obtain⟨Z,hZ⟩:∃Z,st (zr 64)=Z:=⟨_,rfl⟩;rw[hX] at RD CUT HS;rw[hZ] at ZR;have HZ:Hid (st (zr 64)=Z):=hZ;clear e1 e2 hr hX hZ hd OK hl;unfold plc at RD;go_enter Tryz.func141, Tryz.ntmps141;go_wp2_with fail;refine Calls.mono RD.out ?_;rintro e w1 ⟨rfl,hb⟩;have I1:Hid _:=I0.out w1 hb;clear hb h k0 k1 k2 RD I0;have k5:=I1.out.hd.hf.bk.c 5 _ rfl;go_wp2;clear k5;go_loopw [5,6] (fun d i wr=>∃(j:Nat) (F':Nat->Prop) (s':St) (b:Bool),tk<=j/\j<=mn/\d = .bool b/\i = .int .i64 (j:Int)/\Hid (Ck w va p F s q fr mn g v ts tk m more r j b wr F' s')) (fun _ i _=>mn - (intOf i).toNat)
  case atStart=>exact⟨tk,F,s,false,Nat.le_refl _,h3,rfl,rfl,I1.out⟩
  case round =>
   obtain⟨j,F',s',b,hj0,hj,rfl,rfl,I⟩:=hrel;clear I1;have k2:=I.out.hd.hf.bk.c 2 _ rfl;by_cases hlt:j < mn
   ·have g1:(j:Int) < (mn:Int):=by omega
    have y1:IntKind.i64.wrap ((j:Int)*64)=(j:Int)*64:=by rw[IntKind.wrap_i64];omega
    have y2:IntKind.i64.wrap ((j:Int)+1)=(j:Int)+1:=by rw[IntKind.wrap_i64];omega
    have y3:IntKind.i64.wrap (((j:Int)+1)*64)=((j:Int)+1)*64:=by rw[IntKind.wrap_i64];omega
    have CT:=CUT.out j hlt;have SLI:∀W,(Instr.slice 9 (.string X) (some (.int .i64 ((j:Int)*64))) (some (.int .i64 (((j:Int)+1)*64))) none).run Tryz.prog W = .ok (.string (st (s.sh (fr+j)))) W:=fun W=>by
     rw[<-CT];exact zmw X (64*j) (64*j+64) _ _ (by omega) (by omega) (by omega) (by rw[HS.out];omega) W
    clear CT;by_cases hz:s.sh (fr+j)=zr 64
    ·rw[hz,HZ.out] at SLI
     have I2:Hid _:=I.out.skip hlt hz;clear hz;go_wp2_with fail;go_region_with (first|(go_at_call 221;refine Calls.mono (ZR.out _) ?_;rintro e w2 ⟨rfl,hb2⟩))
     all_goals
      have I3:Hid _:=(I2.out.later (Below.refl _ _).drew).later hb2;clear hb2 I2 I SLI;go_wp2;go_roundw
      case rel=>exact⟨j+1,F',s',b,by omega,by omega,rfl,rfl,I3.out⟩
      case measure=>simp[intOf];omega
    ·have hne:=zpD hz
     rw[HZ.out] at hne;have hsh:s'.sh (fr+j)≠zr 64:=by rw[I.out.sh j (Nat.le_refl _)];exact hz
     have HR:Hid (r=_):=I.out.eq.trans (zpC hlt hsh);have NS:Hid (∀i,j+1<=i->(wrb s' (fr+j) (zr 64)).2.sh (fr+i)=s.sh (fr+i)):=fun i hi=>by
      rw[zhH _ _ _ (zcN 64)];exact (zvd _ _ _ _ (by omega)).trans (I.out.sh i (by omega))
     have NL:Hid ((wrb s' (fr+j) (zr 64)).2.l.length<=s.l.length+(j+1 - tk)):=by
      show _<=_;rw[zhH _ _ _ (zcN 64)];have:=zfv s' ((fr+j:Nat):Int) (zr 64);have:=I.out.ln;show (wrS s' ((fr+j:Nat):Int) (zr 64)).l.length<=_
      omega
     have WR:Hid (∀W,Dl w W p F' s'->Cl 222 #[.agg #[.pointer (some ⟨p,0,none⟩),.int .i64 (fr:Int),.int .i64 (mn:Int)],.int .i64 (j:Int),.string Z] W fun e w'=>e = .returned (.int .i64 (wrb s' (fr+j) (zr 64)).1)/\Ds w W p F' (wrb s' (fr+j) (zr 64)).2 w'):=fun W k=>by
      rw[<-HZ.out];exact zc8 w W p F' s' fr j mn (zr 64) 1 (zcN 64) (by decide) (by omega) (by have:=I.out.ln;have:=HL.out;omega) k
     obtain⟨S,hS⟩:∃S,st (s.sh (fr+j))=S:=⟨_,rfl⟩;rw[hS] at SLI hne;obtain⟨y,hy⟩:∃y,wrb s' (fr+j) (zr 64)=y:=⟨_,rfl⟩;rw[hy] at HR NS NL WR;obtain⟨x,hx⟩:∃x,y.1=x:=⟨_,rfl⟩;rw[hx] at WR;have HX:Hid (y.1=x):=hx;clear hS hz hsh hy hx;go_wp2_with fail;go_region_with (first|(go_at_call 221;refine Calls.mono (ZR.out _) ?_;rintro e w2 ⟨rfl,hb2⟩))
     all_goals
      have I3:Hid _:=(I.out.later (Below.refl _ _).drew).later hb2;clear hb2 I SLI k2;go_wp2_with fail;have c0:=I3.out.hd.hf.bk.c 0 _ rfl;have c1:=I3.out.hd.hf.bk.c 1 _ rfl;have c2:=I3.out.hd.hf.bk.c 2 _ rfl;have NQ:Hid (¬F' q):=(I3.out.hd.ap q (.inl rfl)).1;have D1:Hid (∀W,Below w2.drew.heap.size w2.drew W->Ck w va p F s q fr mn g v ts tk m more r j b W F' s'):=fun W hb=>(I3.out.later (Below.refl _ _).drew).later hb
      clear I3;go_region_held3 (fun w'=>w'.cell? ⟨q,0,none⟩=some (.pointer (some ⟨p,0,none⟩))/\w'.cell? ⟨q,1,none⟩=some (.int .i64 (fr:Int))/\w'.cell? ⟨q,2,none⟩=some (.int .i64 (mn:Int))) (first|exact⟨c0,c1,c2⟩|assumption|exact zw8 (by assumption) (by assumption)|exact zve NQ.out (by assumption) (by assumption)) (first|(go_at_call 221;refine Calls.mono (ZR.out _) ?_;rintro e w3 ⟨rfl,hb3⟩)|(go_at_call 222;refine Calls.mono (WR.out _ (D1.out _ (by assumption)).hd.dl) ?_;rintro e w4 ⟨rfl,hd4⟩));have D2:=D1.out w3 hb3;obtain⟨F4,d1,d2,d3⟩:=hd4;have I4:Hid (HD w w4 p F4 y.2 q fr mn g v ts tk m more/\Nx va F F4/\Bf F va w4):=⟨D2.hd.disk d1 d2 d3,D2.nx.trans d2 D2.bf.size,D2.bf.trans D2.nx d3⟩;clear D1 D2 d1 d2 d3 hb3 WR c0 c1 c2 NQ;by_cases h0:x=0
      ·subst h0
       have I5:Hid (Ck w va p F s q fr mn g v ts tk m more r (j+1) true w4 F4 y.2):=⟨I4.out.1,I4.out.2.1,I4.out.2.2,NL.out,HR.out.trans (zaB HX.out),NS.out⟩;clear I4 HR NS NL;go_wp2;go_roundw
       case rel=>exact⟨j+1,F4,y.2,true,by omega,by omega,rfl,rfl,I5.out⟩
       case measure=>simp[intOf];omega
      ·have HR2:Hid (r=y):=HR.out.trans (zaS (by rw[HX.out];exact h0))
       have FF:Hid (Ds w va p F y.2 w4):=⟨F4,I4.out.1.dl,I4.out.2.1,I4.out.2.2⟩;clear I4 HR NS NL;go_wp2;go_ret;exact⟨by rw[HR2.out,HX.out];rfl,by rw[HR2.out];exact FF.out⟩
   ·obtain rfl:j=mn:=by omega
    have HR:=I.out.eq;rw[Nat.sub_self,cls] at HR;cases b
    ·have HR2:Hid (r=(0,s')):=HR
     have FF:Hid (Ds w va p F s' wr):=I.out.ds;clear HR;go_wp2;go_ret;exact⟨by rw[HR2.out];rfl,by rw[HR2.out];exact FF.out⟩
    ·have HR2:Hid (r=(syE s',syS s')):=HR
     have SY:Hid _:=zcO w wr p F' s' fr j (by have:=I.out.ln;have:=HL.out;omega) I.out.hd.dl;have c0:=I.out.hd.hf.bk.c 0 _ rfl;have c1:=I.out.hd.hf.bk.c 1 _ rfl;have JJ:Hid (Nx va F F'/\Bf F va wr):=⟨I.out.nx,I.out.bf⟩;unfold plc at SY;clear HR I;go_wp2_with fail;refine Calls.mono SY.out ?_;rintro e w5 ⟨rfl,F5,d1,d2,d3⟩;have FF:Hid (Ds w va p F (syS s') w5):=⟨F5,d1,JJ.out.1.trans d2 JJ.out.2.size,JJ.out.2.trans JJ.out.1 d3⟩;clear d1 d2 d3 SY;go_wp2;go_ret;exact⟨by rw[HR2.out];rfl,by rw[HR2.out];exact FF.out⟩
abbrev hv (p fr mn g:Nat) (v:Value) (tk:Nat) (m:Bs):Value := .agg (hc p fr mn g v tk m []).toArray
abbrev hz0:List Value:=[.pointer none,.int .i64 0,.int .i64 0,.int .i64 0,.slice none 0 0,.int .i64 0,.string ⟨#[]⟩]
def fT (s:St) (fr mn:Nat):List Bs:=if gen (hb s fr mn)=0 then [] else zjR s fr mn (gen (hb s fr mn))
def fK (s:St) (fr mn:Nat):Nat:=if gen (hb s fr mn)=0 then 0 else tkn 1 (fT s fr mn)
def fM (s:St) (fr mn:Nat):Bs:=if gen (hb s fr mn)=0 then [] else mks (hm (gen (hb s fr mn))) (fT s fr mn)
theorem zjT (w va:World) (p:Nat) (F:Nat->Prop) (s:St) (fr mn:Nat) (h1:1<=mn) (h2:fr+mn<=s.n) (hd:s.down=true) (h:Hid (Dl w va p F s)) :
  Cl 216 #[plc p fr mn] va fun e w'=>e = .returned (.tuple #[.agg hz0.toArray,.int .i64 150])/\Bw va w':=by
 have e2:rdA s fr mn = .tuple #[.string ⟨#[]⟩,.int .i64 150]:=if_pos hd;have RD:Hid (∀W,Bw va W->Cl 220 #[.agg #[.pointer (some ⟨p,0,none⟩),.int .i64 (fr:Int),.int .i64 (mn:Int)]] W fun e w'=>e = .returned (.tuple #[.string ⟨#[]⟩,.int .i64 150])/\Bw W w'):=fun W hb=>by
  have:=zdZ w W p F s fr mn h1 h2 (h.out.later hb);rw[e2] at this;exact this
 have I0:Hid (Blk ((va.alloc (.cells #[.pointer (some ⟨p,0,none⟩),.int .i64 (fr:Int),.int .i64 (mn:Int)] 235)).alloc (.cells hz0.toArray 237)) (va.heap.size+1) hz0/\Bw va ((va.alloc (.cells #[.pointer (some ⟨p,0,none⟩),.int .i64 (fr:Int),.int .i64 (mn:Int)] 235)).alloc (.cells hz0.toArray 237))):=⟨zdY va _ hz0 _ (by simp),chain (nb _ _) (nb _ _)⟩;clear e2 h hd h1 h2;unfold plc;go_enter Tryz.func216, Tryz.ntmps216;go_wp2_with fail;refine Calls.mono (RD.out _ I0.out.2) ?_;rintro e w1 ⟨rfl,hb⟩;have I1:Hid (_/\_):=And.intro (I0.out.1.later hb) (chain I0.out.2 hb);clear hb I0 RD;have k0:=I1.out.1.c 0 _ rfl;have k1:=I1.out.1.c 1 _ rfl;have k2:=I1.out.1.c 2 _ rfl;have k3:=I1.out.1.c 3 _ rfl;have k4:=I1.out.1.c 4 _ rfl;have k5:=I1.out.1.c 5 _ rfl;have k6:=I1.out.1.c 6 _ rfl;have kf:=I1.out.1.f;have FI:Hid (_/\_):=And.intro (I1.out.1.put hz0 rfl) (zan (Nat.le_succ _) hz0 0 I1.out.2);clear I1;go_wp2;refine bodyPost_ret (v := .tuple #[.agg hz0.toArray,.int .i64 150]) ?_ rfl ⟨rfl,FI.out.2⟩;exact zbp Tryz.results216 _ _ (va.heap.size+1) _ _ (by kernel_rfl) (by kernel_rfl) (run_loadVar_mid _ (va.heap.size+1) 0 237 hz0 _ FI.out.1.r Tryz.underlying237 rfl (by kernel_rfl))
structure Fi (va:World) (p fr mn g:Nat) (q c:Nat) (v:Value) (ts:List Bs) (tk:Nat) (m:Bs) (wr:World):Prop where
 hf:Hf wr q p fr mn g v ts tk m []
 bk:Blk wr c hz0
 bl:Bw va wr
 nq:va.heap.size<=q
 nc:va.heap.size<=c
 qc:c≠q
 vc:v.ownBlock≠some c
 nv:∀x,v.ownBlock=some x->va.heap.size<=x
section
variable {va:World} {p fr mn g q c:Nat} {v:Value} {ts:List Bs} {tk:Nat} {m:Bs} {wr:World}
theorem Fi.later (h:Fi va p fr mn g q c v ts tk m wr) {w':World} (hb:Bw wr w'):Fi va p fr mn g q c v ts tk m w':=⟨h.hf.later hb,h.bk.later hb,chain h.bl hb,h.nq,h.nc,h.qc,h.vc,h.nv⟩
theorem Fi.half (h:Fi va p fr mn g q c v ts tk m wr) {w':World} {v':Value} {ts':List Bs} {tk':Nat} {m':Bs} (k:Hf w' q p fr mn g v' ts' tk' m' []) (hb:Bf (HFt q v) wr w') (hx:Nx wr (HFt q v) (HFt q v')):Fi va p fr mn g q c v' ts' tk' m' w':=by
 have ca:¬HFt q v c:=fun e=>by
  rcases e with e|e
  ·exact h.qc e
  ·exact h.vc e
 refine⟨k,h.bk.bf hb ca,h.bl.trans (hb.below (fun x e => ?_) h.bl.size),h.nq,h.nc,h.qc,fun e => ?_,fun x e => ?_⟩
 ·rcases e with rfl|e
  ·exact h.nq
  ·exact h.nv x e
 ·rcases hx c (.inr e) with d|d
  ·exact ca d
  ·have:=h.bk.lt
   omega
 ·rcases hx x (.inr e) with d|d
  ·rcases d with rfl|d
   ·exact h.nq
   ·exact h.nv x d
  ·exact Nat.le_trans h.bl.size d
end
theorem zmy {m:Nat} {b a:Bs} (h:rof b a=none):zec m b a=[]:=by
 cases m with
 | zero=>rfl
 | succ m=>rw[zec,h]
theorem zmz {m:Nat} {b a t:Bs} (hm:1<=m) (h:rof b a=some t):zec m b a=t::zec (m - 1) (b.drop (64*sn t)) (rmk a t):=by
 obtain⟨k,rfl⟩:∃k,m=k+1:=⟨m - 1,by omega⟩;rw[zec,h];rfl
theorem zc9 (ts:List Bs):1+ts.length<=tkn 1 ts:=by
 rw[zb1];have:=zms ts;omega
theorem zq2 {va:World} {p fr mn g q c:Nat} {v:Value} {ts:List Bs} {tk:Nat} {m:Bs} {wr:World} (h:Fi va p fr mn g q c v ts tk m wr):Blk (wr.setCells c 0 (hc p fr mn g v tk m [])) c (hc p fr mn g v tk m [])/\Bw va (wr.setCells c 0 (hc p fr mn g v tk m []))/\OwnsS (wr.setCells c 0 (hc p fr mn g v tk m [])) v ts :=
 ⟨h.bk.put _ rfl,zan h.nc _ 0 h.bl,ownsRow_same h.hf.row (fun x e=>zad wr c 0 _ x (fun d=>h.vc (by rw[e,d])))⟩
def zeG (q mn:Nat) (w:World):Nat:=mn - (intOf ((w.cell? ⟨q,5,none⟩).getD undef)).toNat
theorem zgD {w:World} {q p fr mn g:Nat} {v:Value} {ts:List Bs} {tk:Nat} {m:Bs} {more:List Value} (h:Hf w q p fr mn g v ts tk m more):zeG q mn w=mn - tk:=by
 unfold zeG;rw[h.bk.c 5 _ rfl];rfl
theorem zpE (X:Ba) (i:Nat) (x:Int) (hx:x=(i:Int)) (h2:i<=X.size) (w:World):(Instr.slice 9 (.string X) (some (.int .i64 x)) none none).run Tryz.prog w = .ok (.string (X.extract i X.size)) w:=by
 subst hx;have h6:(i:Int)<=(X.size:Int):=by omega
 simp[Instr.slice,Instr.sliceBounds,Instr.sliceBound,asIntOf,run_underlying Tryz.underlying9, h2]
def FdP (va:World) (p:Nat) (s:St) (fr mn:Nat) (e:Ending) (w':World):Prop:=∃v,e = .returned (.tuple #[hv p fr mn (gen (hb s fr mn)) v (fK s fr mn) (fM s fr mn),.int .i64 0])/\OwnsS w' v (fT s fr mn)/\(∀x,v.ownBlock=some x->va.heap.size<=x)/\Bw va w'
theorem zpF (w va:World) (p:Nat) (F:Nat->Prop) (s:St) (fr mn:Nat) (h1:1<=mn) (h2:fr+mn<=s.n) (hd:s.down=false) (hk:Hid (Kh w)) (h:Hid (Dl w va p F s)) :
  Cl 216 #[plc p fr mn] va fun e w'=>FdP va p s fr mn e w':=by
 have OK:=h.out.at_.1;have hn:=OK.n2;have e2:rdA s fr mn = .tuple #[.string (st (hb s fr mn)),.int .i64 0]:=if_neg (by rw[hd];simp);have RD:Hid (∀W,Bw va W->Cl 220 #[.agg #[.pointer (some ⟨p,0,none⟩),.int .i64 (fr:Int),.int .i64 (mn:Int)]] W fun e w'=>e = .returned (.tuple #[.string (st (hb s fr mn)),.int .i64 0])/\Bw W w'):=fun W hb=>by
  have:=zdZ w W p F s fr mn h1 h2 (h.out.later hb);rw[e2] at this;exact this
 have HL:Hid ((hb s fr mn).length=64*mn):=zeB OK fr mn;have KH:Hid (∀W,Bw va W->Kh W):=fun W hb=>hk.out.later (chain h.out.below hb)
 have GN:Hid (∀W,Kh W->Cl 285 #[.string (st (hb s fr mn))] W fun e w'=>e = .returned (.int .i64 (gen (hb s fr mn):Int))/\Bw W w'):=fun W k=>zpy _ (by rw[HL.out];omega) W k
 have J0:Hid (Blk (va.alloc (.cells #[.pointer (some ⟨p,0,none⟩),.int .i64 (fr:Int),.int .i64 (mn:Int)] 235)) va.heap.size [.pointer (some ⟨p,0,none⟩),.int .i64 (fr:Int),.int .i64 (mn:Int)]):=Blk.new va _ _ (by simp);have I0:Hid (Blk ((va.alloc (.cells #[.pointer (some ⟨p,0,none⟩),.int .i64 (fr:Int),.int .i64 (mn:Int)] 235)).alloc (.cells hz0.toArray 237)) va.heap.size [.pointer (some ⟨p,0,none⟩),.int .i64 (fr:Int),.int .i64 (mn:Int)]/\Blk ((va.alloc (.cells #[.pointer (some ⟨p,0,none⟩),.int .i64 (fr:Int),.int .i64 (mn:Int)] 235)).alloc (.cells hz0.toArray 237)) (va.heap.size+1) hz0/\Bw va ((va.alloc (.cells #[.pointer (some ⟨p,0,none⟩),.int .i64 (fr:Int),.int .i64 (mn:Int)] 235)).alloc (.cells hz0.toArray 237))):=⟨J0.out.later (nb _ _),zdY va _ hz0 _ (by simp),chain (nb _ _) (nb _ _)⟩;have gm:mn<=1024:=by omega
 have gf:fr<=1024:=by omega
 unfold FdP;have ER:Hid (∀g,g=gen (hb s fr mn)->g≠0->fT s fr mn=zec mn ((hb s fr mn).drop 64) (hm g)/\fK s fr mn=tkn 1 (fT s fr mn)/\fM s fr mn=mks (hm g) (fT s fr mn)):=fun g e h0=>by
  subst e;exact⟨by rw[fT,if_neg h0];rfl,by rw[fK,if_neg h0],by rw[fM,if_neg h0]⟩
 have EZ:Hid (gen (hb s fr mn)=0->fT s fr mn=[]/\fK s fr mn=0/\fM s fr mn=[]):=fun e=>⟨by rw[fT,if_pos e],by rw[fK,if_pos e],by rw[fM,if_pos e]⟩
 obtain⟨b,hbb⟩:∃b,hb s fr mn=b:=⟨_,rfl⟩;rw[hbb] at RD HL GN ER EZ ⊢;obtain⟨g,hg⟩:∃g,gen b=g:=⟨_,rfl⟩;rw[hg] at GN EZ ⊢;have EG:=ER.out g hg.symm;have EG2:Hid (g≠0->_):=EG;obtain⟨kT,hkT⟩:∃kT,fT s fr mn=kT:=⟨_,rfl⟩;obtain⟨kK,hkK⟩:∃kK,fK s fr mn=kK:=⟨_,rfl⟩;obtain⟨kM,hkM⟩:∃kM,fM s fr mn=kM:=⟨_,rfl⟩;rw[hkT,hkK,hkM] at EG2 EZ ⊢;have H1:Hid (1<=mn):=h1;clear e2 h hd h1 h2 OK J0 hk EG ER hbb hg hkT hkK hkM;unfold plc;go_enter Tryz.func216, Tryz.ntmps216;go_wp2_with fail;refine Calls.mono (RD.out _ I0.out.2.2) ?_;rintro e w1 ⟨rfl,hb⟩;have I1:Hid (Blk w1 va.heap.size [.pointer (some ⟨p,0,none⟩),.int .i64 (fr:Int),.int .i64 (mn:Int)]/\Blk w1 (va.heap.size+1) hz0/\Bw va w1):=⟨I0.out.1.later hb,I0.out.2.1.later hb,chain I0.out.2.2 hb⟩;clear hb I0 RD;obtain⟨X,hX⟩:∃X,st b=X:=⟨_,rfl⟩;have HX:Hid (st b=X):=hX;rw[hX] at GN ⊢;clear hX;have k0:=I1.out.1.c 0 _ rfl;have k1:=I1.out.1.c 1 _ rfl;have k2:=I1.out.1.c 2 _ rfl;have IA:Hid (Blk (w1.alloc (.cells hz0.toArray 237)).drew w1.heap.size hz0/\Bw va (w1.alloc (.cells hz0.toArray 237)).drew/\Bw w1 (w1.alloc (.cells hz0.toArray 237)).drew):=⟨(Blk.new w1 hz0 _ (by simp)).drew,(chain I1.out.2.2 (nb _ _)).drew,(nb _ _).drew⟩;have G1:Hid (Cl 285 #[.string X] w1.drew fun e w'=>e = .returned (.int .i64 (g:Int))/\Bw w1 w'):=(GN.out w1.drew (KH.out _ (I1.out.2.2.drew))).mono fun _ _ ⟨he,hb⟩=>⟨he,chain (Below.refl _ _).drew hb⟩
 have G2:Hid (Cl 285 #[.string X] (w1.alloc (.cells hz0.toArray 237)).drew fun e w'=>e = .returned (.int .i64 (g:Int))/\Bw w1 w'/\Blk w' w1.heap.size hz0):=(GN.out _ (KH.out _ IA.out.2.1)).mono fun _ _ ⟨he,hb⟩=>⟨he,chain IA.out.2.2 hb,IA.out.1.later hb⟩
 clear GN IA;have a0:=zab (o:=(.cells #[.pointer none,.int .i64 0,.int .i64 0,.int .i64 0,.slice none 0 0,.int .i64 0,.string ⟨#[]⟩] 237)) k0;have a1:=zab (o:=(.cells #[.pointer none,.int .i64 0,.int .i64 0,.int .i64 0,.slice none 0 0,.int .i64 0,.string ⟨#[]⟩] 237)) k1;have a2:=zab (o:=(.cells #[.pointer none,.int .i64 0,.int .i64 0,.int .i64 0,.slice none 0 0,.int .i64 0,.string ⟨#[]⟩] 237)) k2;have FA:Hid (∀w2,Bw w1 w2->Hid (Fi va p fr mn g w2.heap.size (va.heap.size+1) (.slice none 0 0) [] 0 [] (w2.alloc (.cells #[.pointer (some ⟨p,0,none⟩),.int .i64 (fr:Int),.int .i64 (mn:Int),.int .i64 (g:Int),.slice none 0 0,.int .i64 0,.string ⟨#[]⟩] 237)))):=fun w2 hb=>by
  have h1:=I1.out.2.1.lt;have h2:=hb.size;exact⟨⟨Blk.new w2 (hc p fr mn g (.slice none 0 0) 0 [] []) _ (by simp),zaz _,nofun⟩,(I1.out.2.1.later hb).later (nb _ _),chain (chain I1.out.2.2 hb) (nb _ _),by omega,Nat.le_succ _,by omega,nofun,nofun⟩
 have FB:Hid (∀w2,Bw w1 w2->Blk w2 w1.heap.size hz0->Hid (Fi va p fr mn g w1.heap.size (va.heap.size+1) (.slice none 0 0) [] 0 [] (((((((w2.setCell ⟨w1.heap.size,0,none⟩ (.pointer (some ⟨p,0,none⟩))).setCell ⟨w1.heap.size,1,none⟩ (.int .i64 (fr:Int))).setCell ⟨w1.heap.size,2,none⟩ (.int .i64 (mn:Int))).setCell ⟨w1.heap.size,3,none⟩ (.int .i64 (g:Int))).setCell ⟨w1.heap.size,4,none⟩ (.slice none 0 0)).setCell ⟨w1.heap.size,5,none⟩ (.int .i64 0)).setCell ⟨w1.heap.size,6,none⟩ (.string ⟨#[]⟩)))):=fun w2 hb bk=>by
  have h1:=I1.out.2.1.lt;have h2:=I1.out.2.2.size;show Fi va p fr mn g w1.heap.size (va.heap.size+1) (.slice none 0 0) [] 0 [] (w2.setCells w1.heap.size 0 (hc p fr mn g (.slice none 0 0) 0 [] []))
  exact⟨⟨bk.put _ rfl,zaz _,nofun⟩,(I1.out.2.1.later hb).same (zad _ _ _ _ _ (by omega)),zan (by omega) _ 0 (chain I1.out.2.2 hb),h2,Nat.le_succ _,by omega,nofun,nofun⟩
 go_upto_region 4 with fail
 go_cut [6] (fun s6 wx=>∃q,s6 = .pointer (some ⟨q,0,none⟩)/\Hid (Fi va p fr mn g q (va.heap.size+1) (.slice none 0 0) [] 0 [] wx))
 case first =>
  clear I1;go_wp2_with fail;go_region_with (first|(go_at_call 285;with_reducible refine Calls.mono G1.out ?_;rintro e w2 ⟨rfl,hb2⟩;have q0:=cell_later hb2 k0;have q1:=cell_later hb2 k1;have q2:=cell_later hb2 k2;have b0:=zab (o:=(.cells #[.pointer none,.int .i64 0,.int .i64 0,.int .i64 0,.slice none 0 0,.int .i64 0,.string ⟨#[]⟩] 237)) q0;have b1:=zab (o:=(.cells #[.pointer none,.int .i64 0,.int .i64 0,.int .i64 0,.slice none 0 0,.int .i64 0,.string ⟨#[]⟩] 237)) q1;have b2:=zab (o:=(.cells #[.pointer none,.int .i64 0,.int .i64 0,.int .i64 0,.slice none 0 0,.int .i64 0,.string ⟨#[]⟩] 237)) q2)|(go_at_call 285;with_reducible refine Calls.mono G2.out ?_;rintro e w2 ⟨rfl,hb2,bk2⟩;have q0:=cell_later hb2 k0;have q1:=cell_later hb2 k1;have q2:=cell_later hb2 k2;have z0:=bk2.c 0 _ rfl;have z1:=bk2.c 1 _ rfl;have z2:=bk2.c 2 _ rfl;have z3:=bk2.c 3 _ rfl;have z4:=bk2.c 4 _ rfl;have z5:=bk2.c 5 _ rfl;have z6:=bk2.c 6 _ rfl;have zf:=bk2.f))
  all_goals (go_wp2;go_meet)
  all_goals first
   | (refine⟨w2.heap.size,rfl,?_⟩;have FA':=FA.out w2 (by assumption);clear FA FB;with_reducible exact FA')
   | (refine⟨w1.heap.size,rfl,?_⟩;have FB':=FB.out w2 (by assumption) (by assumption);clear FA FB;with_reducible exact FB')
 case rest =>
  obtain⟨q,rfl,I2⟩:=hcut;clear I1 FA FB k0 k1 k2 a0 a1 a2 G1 G2;have k3:=I2.out.hf.bk.c 3 _ rfl;by_cases h0:g=0
  ·subst h0
   have k0:=I2.out.hf.bk.c 0 _ rfl;have k1:=I2.out.hf.bk.c 1 _ rfl;have k2:=I2.out.hf.bk.c 2 _ rfl;have k4:=I2.out.hf.bk.c 4 _ rfl;have k5:=I2.out.hf.bk.c 5 _ rfl;have k6:=I2.out.hf.bk.c 6 _ rfl;have z0:=I2.out.bk.c 0 _ rfl;have z1:=I2.out.bk.c 1 _ rfl;have z2:=I2.out.bk.c 2 _ rfl;have z3:=I2.out.bk.c 3 _ rfl;have z4:=I2.out.bk.c 4 _ rfl;have z5:=I2.out.bk.c 5 _ rfl;have z6:=I2.out.bk.c 6 _ rfl;have zf:=I2.out.bk.f;have FI:Hid _:=zq2 I2.out;have hne:=I2.out.qc;clear I2 EG2;go_wp2;refine bodyPost_ret (v := .tuple #[hv p fr mn 0 (.slice none 0 0) 0 [],.int .i64 0]) ?_ rfl ⟨.slice none 0 0,?_,?_,nofun,FI.out.2.1⟩
   ·exact zbp Tryz.results216 _ _ (va.heap.size+1) _ _ (by kernel_rfl) (by kernel_rfl) (run_loadVar_mid _ (va.heap.size+1) 0 237 (hc p fr mn 0 (.slice none 0 0) 0 [] []) _ FI.out.1.r Tryz.underlying237 rfl (by kernel_rfl))
   ·obtain⟨-,rfl,rfl⟩:=EZ.out (by first|rfl|trivial)
    rfl
   ·obtain⟨rfl,-,-⟩:=EZ.out (by first|rfl|trivial)
    exact FI.out.2.2
  ·have hg0:¬(g:Int)=0:=by omega
   have C1:Hid _:=zgC q p fr mn g (.slice none 0 0) [] 0 [] [] wc (KH.out wc I2.out.bl) I2.out.hf;have EG:=EG2.out h0;have HT:Hid (kT=zec mn (b.drop 64) (hm g)):=EG.1;have HKM:Hid (kK=tkn 1 kT/\kM=mks (hm g) kT):=EG.2;clear EG EG2 EZ;go_wp2_with fail;refine Calls.mono C1.out ?_;rintro e w3 ⟨rfl,h3,hb3⟩;have I3:Hid (Fi va p fr mn g q (va.heap.size+1) (.slice none 0 0) [] 1 (hm g) w3):=I2.out.half h3 (hb3.wide fun x e => .inl e) (Nx.refl _ _);clear h3 hb3 I2 C1 k3;go_wp2;go_loopw [] (fun wr=>∃(v:Value) (ts:List Bs),Hid (Fi va p fr mn g q (va.heap.size+1) v ts (tkn 1 ts) (mks (hm g) ts) wr/\kT=ts++zec (mn - ts.length) (b.drop (64*tkn 1 ts)) (mks (hm g) ts)/\tkn 1 ts<=mn)) (fun wr=>zeG q mn wr)
   case atStart=>exact⟨.slice none 0 0,[],I3.out,HT.out,H1.out⟩
   case round =>
    obtain⟨v,ts,I⟩:=hrel;clear I3;obtain⟨tk,htk⟩:∃tk,tkn 1 ts=tk:=⟨_,rfl⟩;obtain⟨m,hmm⟩:∃m,mks (hm g) ts=m:=⟨_,rfl⟩;have hm16:m.length=16:=by rw[<-hmm];exact zfp ts _ rfl
    have hln:=zc9 ts;have hla:=zfn ts 1;have hma:=zfo ts (hm g);rw[htk] at I hln hla;rw[hmm] at I hma;have hts:ts.length < mn:=by have:=I.out.2.2;omega
    have htm:tk<=mn:=I.out.2.2;have HLA:Hid (∀t,tkn 1 (ts++[t])=tk+sn t):=hla;have HMA:Hid (∀t,mks (hm g) (ts++[t])=rmk m t):=hma;have HTK:Hid (tkn 1 ts=tk/\mks (hm g) ts=m):=⟨htk,hmm⟩;have HXS:Hid (X.size=64*mn):=by
     show X.size=_;rw[<-HX.out,zai,HL.out]
    have RC:Hid (∀W,Kh W->Cl 287 #[.string (st (b.drop (64*tk))),.string (st m)] W fun e w'=>e = .returned (zsW (b.drop (64*tk)) m)/\Bw W w'):=fun W k=>zfu (b.drop (64*tk)) m hm16 W k
    have SLI:∀W,(Instr.slice 9 (.string X) (some (.int .i64 ((tk:Int)*64))) none none).run Tryz.prog W = .ok (.string (st (b.drop (64*tk)))) W:=fun W=>by
     have e1:X.extract (64*tk) X.size=st (b.drop (64*tk)):=by
      rw[HXS.out,<-HX.out,zdU,List.take_of_length_le (by rw[HL.out];omega)]
     rw[<-e1];exact zpE X (64*tk) _ (by omega) (by rw[HXS.out];omega) W
    have y1:IntKind.i64.wrap ((tk:Int)*64)=(tk:Int)*64:=by rw[IntKind.wrap_i64];omega
    obtain⟨R1,R2,ok,hR⟩:∃R1 R2 ok,zsW (b.drop (64*tk)) m = .tuple #[.agg #[.string R1,.string R2],.bool ok]:=by
     unfold zsW
     split
     ·exact⟨_,_,_,rfl⟩
     ·exact⟨_,_,_,rfl⟩
    rw[hR] at RC;have HR:Hid (zsW (b.drop (64*tk)) m = .tuple #[.agg #[.string R1,.string R2],.bool ok]):=hR;have IM:Hid (zeG q mn wr=mn - tk):=zgD I.out.1.hf;clear htk hmm hln hla hma hR HX;have k5:=I.out.1.hf.bk.c 5 _ rfl;have k6:=I.out.1.hf.bk.c 6 _ rfl;unfold sv at k6;obtain⟨A,hA⟩:∃A,st m=A:=⟨_,rfl⟩;obtain⟨Y,hY⟩:∃Y,st (b.drop (64*tk))=Y:=⟨_,rfl⟩;rw[hA] at RC k6;rw[hY] at RC SLI;clear hA hY;have IA:Hid (Blk (wr.alloc (.cells #[.string ⟨#[]⟩,.string ⟨#[]⟩] 337)).drew wr.heap.size [.string ⟨#[]⟩,.string ⟨#[]⟩]/\Bw wr (wr.alloc (.cells #[.string ⟨#[]⟩,.string ⟨#[]⟩] 337)).drew):=⟨(Blk.new wr _ _ (by simp)).drew,(nb _ _).drew⟩;have G1:Hid (Cl 287 #[.string Y,.string A] wr.drew fun e w'=>e = .returned (.tuple #[.agg #[.string R1,.string R2],.bool ok])/\Bw wr w'):=(RC.out wr.drew (KH.out _ (I.out.1.bl.drew))).mono fun _ _ ⟨he,hb⟩=>⟨he,chain (Below.refl _ _).drew hb⟩
    have G2:Hid (Cl 287 #[.string Y,.string A] (wr.alloc (.cells #[.string ⟨#[]⟩,.string ⟨#[]⟩] 337)).drew fun e w'=>e = .returned (.tuple #[.agg #[.string R1,.string R2],.bool ok])/\Bw wr w'/\Blk w' wr.heap.size [.string ⟨#[]⟩,.string ⟨#[]⟩]):=(RC.out _ (KH.out _ (chain I.out.1.bl IA.out.2))).mono fun _ _ ⟨he,hb⟩=>⟨he,chain IA.out.2 hb,IA.out.1.later hb⟩
    have a5:=zab (o:=(.cells #[.string ⟨#[]⟩,.string ⟨#[]⟩] 337)) k5;have a6:=zab (o:=(.cells #[.string ⟨#[]⟩,.string ⟨#[]⟩] 337)) k6;have FA:Hid (∀w2,Bw wr w2->Hid (Fi va p fr mn g q (va.heap.size+1) v ts tk m (w2.alloc (.cells #[.string R1,.string R2] 337))/\Blk (w2.alloc (.cells #[.string R1,.string R2] 337)) w2.heap.size [.string R1,.string R2])):=fun w2 hb=>⟨(I.out.1.later hb).later (nb _ _),Blk.new w2 [.string R1,.string R2] _ (by simp)⟩
    have FB:Hid (∀w2,Bw wr w2->Blk w2 wr.heap.size [.string ⟨#[]⟩,.string ⟨#[]⟩]->Hid (Fi va p fr mn g q (va.heap.size+1) v ts tk m ((w2.setCell ⟨wr.heap.size,0,none⟩ (.string R1)).setCell ⟨wr.heap.size,1,none⟩ (.string R2))/\Blk ((w2.setCell ⟨wr.heap.size,0,none⟩ (.string R1)).setCell ⟨wr.heap.size,1,none⟩ (.string R2)) wr.heap.size [.string R1,.string R2])):=fun w2 hb bk =>
     ⟨I.out.1.later (zan (Nat.le_refl _) [.string R1,.string R2] 0 hb),bk.put [.string R1,.string R2] rfl⟩
    clear IA RC;go_upto_region 8 with fail
    go_cut [7,8] (fun s7 s8 wx=>∃B,s7 = .pointer (some ⟨B,0,none⟩)/\s8 = .bool ok/\Hid (Fi va p fr mn g q (va.heap.size+1) v ts tk m wx/\Blk wx B [.string R1,.string R2]))
    case first =>
     clear I;go_wp2_with fail;go_region_with (first|(go_at_call 287;with_reducible refine Calls.mono G1.out ?_;rintro e w2 ⟨rfl,hb2⟩;have q5:=cell_later hb2 k5;have q6:=cell_later hb2 k6;have b5:=zab (o:=(.cells #[.string ⟨#[]⟩,.string ⟨#[]⟩] 337)) q5;have b6:=zab (o:=(.cells #[.string ⟨#[]⟩,.string ⟨#[]⟩] 337)) q6)|(go_at_call 287;with_reducible refine Calls.mono G2.out ?_;rintro e w2 ⟨rfl,hb2,bk2⟩;have q5:=cell_later hb2 k5;have q6:=cell_later hb2 k6;have z0:=bk2.c 0 _ rfl;have z1:=bk2.c 1 _ rfl;have zf:=bk2.f))
     all_goals (go_wp2;go_meet)
     all_goals first
      | (refine⟨w2.heap.size,rfl,rfl,?_⟩;have FA':=FA.out w2 (by assumption);clear FA FB;with_reducible exact FA')
      | (refine⟨wr.heap.size,rfl,rfl,?_⟩;have FB':=FB.out w2 (by assumption) (by assumption);clear FA FB;with_reducible exact FB')
    case rest =>
     obtain⟨B,rfl,rfl,J⟩:=hcut;obtain⟨xa,xn,xc,rfl⟩:=owns_sliceS J.out.1.hf.row;have IK:Hid (kT=ts++zec (mn - ts.length) (b.drop (64*tk)) m):=I.out.2.1;clear I FA FB G1 G2 a5 a6 k5 k6 SLI y1;have HR':=HR.out;unfold zsW at HR';cases hro:rof (b.drop (64*tk)) m with
     | none =>
      rw[hro] at HR';injection HR' with HR'
      injection HR' with HR'
      injection HR' with e1 e2
      injection e2 with e2 e3
      injection e2 with e2
      subst e2;have EK:Hid (kT=ts/\kK=tk/\kM=m):=by
       have h1:kT=ts:=by rw[IK.out,zmy hro,List.append_nil]
       exact⟨h1,by rw[HKM.out.1,h1];exact HTK.out.1,by rw[HKM.out.2,h1];exact HTK.out.2⟩
      have k0:=J.out.1.hf.bk.c 0 _ rfl;have k1:=J.out.1.hf.bk.c 1 _ rfl;have k2:=J.out.1.hf.bk.c 2 _ rfl;have k3:=J.out.1.hf.bk.c 3 _ rfl;have k4:=J.out.1.hf.bk.c 4 _ rfl;have k5:=J.out.1.hf.bk.c 5 _ rfl;have k6:=J.out.1.hf.bk.c 6 _ rfl;have z0:=J.out.1.bk.c 0 _ rfl;have z1:=J.out.1.bk.c 1 _ rfl;have z2:=J.out.1.bk.c 2 _ rfl;have z3:=J.out.1.bk.c 3 _ rfl;have z4:=J.out.1.bk.c 4 _ rfl;have z5:=J.out.1.bk.c 5 _ rfl;have z6:=J.out.1.bk.c 6 _ rfl;have zf:=J.out.1.bk.f;have FI:Hid _:=zq2 J.out.1;have NV:Hid _:=J.out.1.nv;have hne:=J.out.1.qc;clear J HR e1 e3 IK hro;go_wp2;refine bodyPost_ret (v := .tuple #[hv p fr mn g (.slice xa xn xc) tk m,.int .i64 0]) ?_ rfl ⟨.slice xa xn xc,?_,?_,NV.out,FI.out.2.1⟩
      ·exact zbp Tryz.results216 _ _ (va.heap.size+1) _ _ (by kernel_rfl) (by kernel_rfl) (run_loadVar_mid _ (va.heap.size+1) 0 237 (hc p fr mn g (.slice xa xn xc) tk m []) _ FI.out.1.r Tryz.underlying237 rfl (by kernel_rfl))
      ·obtain⟨-,rfl,rfl⟩:=EK.out
       rfl
      ·obtain⟨rfl,-,-⟩:=EK.out
       exact FI.out.2.2
     | some t =>
      rw[hro] at HR';injection HR' with HR'
      injection HR' with HR'
      injection HR' with e1 e2
      injection e2 with e2 e3
      injection e2 with e2
      subst e2;injection e1 with e1
      injection e1 with e1
      injection e1 with e1 e4
      injection e4 with e4 e5
      injection e1 with e1
      injection e4 with e4
      have hrl:=zgu hro;have hdl:64*sn t<=64*mn - 64*tk:=by
       have:=hrl.1;rw[List.length_drop,HL.out] at this;exact this
      have HS:Hid _:=ziU q p fr mn g (.slice xa xn xc) ts tk m [] (rmk m t) t hrl.2.2 (by omega) (by omega) wc J.out.1.hf;unfold rv sv at HS;rw[e1,e4] at HS;have r0:=J.out.2.c 0 _ rfl;have r1:=J.out.2.c 1 _ rfl;have EK:Hid (kT=(ts++[t])++zec (mn - (ts++[t]).length) (b.drop (64*(tk+sn t))) (rmk m t)):=by
       show kT=_;rw[IK.out,zmz (by omega) hro,List.length_append,List.length_singleton,List.drop_drop,show 64*tk+64*sn t=64*(tk+sn t) by omega,show mn - ts.length - 1=mn - (ts.length+1) by omega,List.append_assoc,List.singleton_append]
      have MS:Hid (zeG q mn wr=mn - tk):=IM.out;clear HR e1 e4 e3 e5 IK hro hrl;have hsn:=zmp t;go_wp2_with fail;refine Calls.mono HS.out ?_;rintro e w5 ⟨rfl,v5,h5,hb5,hx5⟩;have I5:Hid (Fi va p fr mn g q (va.heap.size+1) v5 (ts++[t]) (tk+sn t) (rmk m t) w5):=J.out.1.half h5 hb5 hx5;have M5:Hid (zeG q mn w5=mn - (tk+sn t)):=zgD h5;clear h5 hb5 hx5 HS J r0 r1;go_wp2;go_roundw
      case rel=>exact⟨v5,ts++[t],by rw[HLA.out,HMA.out];exact⟨I5.out,EK.out,by omega⟩⟩
      case measure=>rw[MS.out,M5.out];omega
def gO (s:St) (mn:Nat):Option Nat->Nat
 | none=>0
 | some fr=>gen (hb s fr mn)
def cO (s:St) (p mn:Nat) (v:Value):Option Nat->List Value
 | none=>hz0
 | some fr=>hc p fr mn (gen (hb s fr mn)) v (fK s fr mn) (fM s fr mn) []
def tO (s:St) (mn:Nat):Option Nat->List Bs
 | none=>[]
 | some fr=>fT s fr mn
def us (s:St) (mn:Nat):Nat->Option Nat
 | 0=>none
 | k+1=>if gO s mn (us s mn k) < gen (hb s (k*mn) mn) then some (k*mn) else us s mn k
theorem zcP (s:St) (p mn:Nat) (v:Value) (o:Option Nat):(cO s p mn v o).length=7:=by cases o <;> rfl
theorem cO_g (s:St) (p mn:Nat) (v:Value) (o:Option Nat):(cO s p mn v o)[3]?=some (.int .i64 (gO s mn o:Int)):=by cases o <;> rfl
structure Us (va:World) (p:Nat) (s:St) (mn P c b:Nat) (o:Option Nat) (v:Value) (wr:World):Prop where
 bc:Blk wr c hz0
 bb:Blk wr b (cO s p mn v o)
 pl:Blk wr P [.pointer (some ⟨p,0,none⟩),.int .i64 0,.int .i64 (mn:Int),.pointer (some ⟨p,0,none⟩),.int .i64 (mn:Int),.int .i64 (mn:Int)]
 row:OwnsS wr v (tO s mn o)
 bl:Bw va wr
 nc:va.heap.size<=c
 nb:va.heap.size<=b
 cb:c≠b
 pv:P < va.heap.size
 vc:v.ownBlock≠some c
 vb:v.ownBlock≠some b
 nv:∀x,v.ownBlock=some x->va.heap.size<=x
section
variable {va:World} {p:Nat} {s:St} {mn P c b:Nat} {o:Option Nat} {v:Value} {wr:World}
theorem Us.later (h:Us va p s mn P c b o v wr) {w':World} (hb:Bw wr w'):Us va p s mn P c b o v w' :=
 ⟨h.bc.later hb,h.bb.later hb,h.pl.later hb,ownsRow_same h.row (fun x e=>hb.block x (h.row.lt x e).2),chain h.bl hb,h.nc,h.nb,h.cb,h.pv,h.vc,h.vb,h.nv⟩
theorem Us.better (h:Us va p s mn P c b o v wr) {o':Option Nat} {v':Value} (r:OwnsS wr v' (tO s mn o')) (hc':v'.ownBlock≠some c) (hb':v'.ownBlock≠some b) (hn:∀x,v'.ownBlock=some x->va.heap.size<=x):Us va p s mn P c b o' v' (wr.setCells b 0 (cO s p mn v' o')):=by
 have hx:∀x,x≠b->(wr.setCells b 0 (cO s p mn v' o')).heap[x]?=wr.heap[x]?:=fun x e=>zad wr b 0 _ x e
 have:=h.pv;have:=h.nb;exact⟨h.bc.same (hx c h.cb),h.bb.put _ (by rw[zcP,zcP]),h.pl.same (hx P (by omega)),ownsRow_same r (fun x e=>hx x (fun d=>hb' (by rw[e,d]))),zan h.nb _ 0 h.bl,h.nc,h.nb,h.cb,h.pv,hc',hb',hn⟩
theorem Us.ret (h:Us va p s mn P c b o v wr):Blk (wr.setCells c 0 (cO s p mn v o)) c (cO s p mn v o)/\Bw va (wr.setCells c 0 (cO s p mn v o))/\OwnsS (wr.setCells c 0 (cO s p mn v o)) v (tO s mn o) :=
 ⟨h.bc.put _ (by rw[zcP];rfl),zan h.nc _ 0 h.bl,ownsRow_same h.row (fun x e=>zad wr c 0 _ x (fun d=>h.vc (by rw[e,d])))⟩
end
theorem Blk.ex {w:World} {b:Nat} {cs:List Value} (h:Blk w b cs) (j:Nat) (hj:j < cs.length):∃x,w.cell? ⟨b,j,none⟩=some x:=⟨_,h.c j _ (List.getElem?_eq_getElem hj)⟩
theorem zhI (w va:World) (p:Nat) (F:Nat->Prop) (s:St) (mn P:Nat) (h1:1<=mn) (h2:2*mn<=s.n) (hd:s.down=true) (h:Hid (Dl w va p F s)) (hp:Hid (Blk va P [.pointer (some ⟨p,0,none⟩),.int .i64 0,.int .i64 (mn:Int),.pointer (some ⟨p,0,none⟩),.int .i64 (mn:Int),.int .i64 (mn:Int)])) :
  Cl 138 #[.slice (some ⟨P,0,none⟩) 2 2] va fun e w'=>e = .returned (.tuple #[.agg hz0.toArray,.int .i64 150])/\Bw va w':=by
 have I0:Hid (Us va p s mn P va.heap.size (va.heap.size+1) none (.slice none 0 0) ((va.alloc (.cells hz0.toArray 237)).alloc (.cells hz0.toArray 237))) :=
  ⟨(Blk.new va hz0 _ (by simp)).later (nb _ _),zdY va _ hz0 _ (by simp),hp.out.later (chain (nb _ _) (nb _ _)),zaz _,chain (nb _ _) (nb _ _),Nat.le_refl _,Nat.le_succ _,by omega,hp.out.lt,nofun,nofun,nofun⟩
 have gm:mn<=512:=by have:=h.out.at_.1.n2;omega
 have FD:Hid (∀W,Bw va W->Cl 216 #[.agg #[.pointer (some ⟨p,0,none⟩),.int .i64 0,.int .i64 (mn:Int)]] W fun e w'=>e = .returned (.tuple #[.agg hz0.toArray,.int .i64 150])/\Bw W w'):=fun W hb=>zjT w W p F s 0 mn h1 (by omega) hd (h.out.later hb)
 clear h hp h1 h2 hd;go_enter Tryz.func138, Tryz.ntmps138;go_wp2;go_loopw [11] (fun i wr=>i = .int .i64 0/\Hid (Us va p s mn P va.heap.size (va.heap.size+1) none (.slice none 0 0) wr)) (fun _ _=>0)
 case atStart=>exact⟨rfl,I0.out⟩
 case round =>
  obtain⟨rfl,I⟩:=hrel;clear I0;have c0:=I.out.pl.c 0 _ rfl;have c1:=I.out.pl.c 1 _ rfl;have c2:=I.out.pl.c 2 _ rfl;have I1:Hid (Us va p s mn P va.heap.size (va.heap.size+1) none (.slice none 0 0) (wr.alloc (.cells #[.pointer (some ⟨p,0,none⟩),.int .i64 0,.int .i64 (mn:Int)] 235))):=I.out.later (nb _ _);clear I;go_wp2_with fail;refine Calls.mono (FD.out _ I1.out.bl) ?_;rintro e w2 ⟨rfl,hb2⟩;have I2:Hid (Us va p s mn P va.heap.size (va.heap.size+1) none (.slice none 0 0) (w2.alloc (.cells #[.pointer none,.int .i64 0,.int .i64 0,.int .i64 0,.slice none 0 0,.int .i64 0,.string ⟨#[]⟩] 237))):=(I1.out.later hb2).later (nb _ _);clear I1 hb2 c0 c1 c2 FD;have z0:=I2.out.bc.c 0 _ rfl;have z1:=I2.out.bc.c 1 _ rfl;have z2:=I2.out.bc.c 2 _ rfl;have z3:=I2.out.bc.c 3 _ rfl;have z4:=I2.out.bc.c 4 _ rfl;have z5:=I2.out.bc.c 5 _ rfl;have z6:=I2.out.bc.c 6 _ rfl;have zf:=I2.out.bc.f;have FI:Hid (Blk ((w2.alloc (.cells #[.pointer none,.int .i64 0,.int .i64 0,.int .i64 0,.slice none 0 0,.int .i64 0,.string ⟨#[]⟩] 237)).setCells va.heap.size 0 hz0) va.heap.size hz0/\Bw va ((w2.alloc (.cells #[.pointer none,.int .i64 0,.int .i64 0,.int .i64 0,.slice none 0 0,.int .i64 0,.string ⟨#[]⟩] 237)).setCells va.heap.size 0 hz0)):=⟨I2.out.bc.put _ rfl,zan (Nat.le_refl _) _ 0 I2.out.bl⟩;clear I2;go_wp2;refine bodyPost_ret (v := .tuple #[.agg hz0.toArray,.int .i64 150]) ?_ rfl ⟨rfl,FI.out.2⟩
  exact zbp Tryz.results138 _ _ va.heap.size _ _ (by kernel_rfl) (by kernel_rfl) (run_loadVar_mid _ va.heap.size 0 237 hz0 _ FI.out.1.r Tryz.underlying237 rfl (by kernel_rfl))
theorem zgE (w va:World) (p:Nat) (F:Nat->Prop) (s:St) (mn P:Nat) (h1:1<=mn) (h2:2*mn<=s.n) (hd:s.down=false) (hk:Hid (Kh w)) (h:Hid (Dl w va p F s)) (hp:Hid (Blk va P [.pointer (some ⟨p,0,none⟩),.int .i64 0,.int .i64 (mn:Int),.pointer (some ⟨p,0,none⟩),.int .i64 (mn:Int),.int .i64 (mn:Int)])) :
  Cl 138 #[.slice (some ⟨P,0,none⟩) 2 2] va fun e w'=>∃v,e = .returned (.tuple #[.agg (cO s p mn v (us s mn 2)).toArray,.int .i64 0])/\OwnsS w' v (tO s mn (us s mn 2))/\(∀x,v.ownBlock=some x->va.heap.size<=x)/\Bw va w':=by
 have I0:Hid (Us va p s mn P va.heap.size (va.heap.size+1) none (.slice none 0 0) ((va.alloc (.cells hz0.toArray 237)).alloc (.cells hz0.toArray 237))) :=
  ⟨(Blk.new va hz0 _ (by simp)).later (nb _ _),zdY va _ hz0 _ (by simp),hp.out.later (chain (nb _ _) (nb _ _)),zaz _,chain (nb _ _) (nb _ _),Nat.le_refl _,Nat.le_succ _,by omega,hp.out.lt,nofun,nofun,nofun⟩
 have gm:mn<=512:=by have:=h.out.at_.1.n2;omega
 have FU:Hid (∀W fr,Bw va W->fr+mn<=s.n->Cl 216 #[.agg #[.pointer (some ⟨p,0,none⟩),.int .i64 (fr:Int),.int .i64 (mn:Int)]] W fun e w'=>FdP W p s fr mn e w'):=fun W fr hb hf=>zpF w W p F s fr mn h1 hf hd hk (h.out.later hb)
 have H2:Hid (2*mn<=s.n):=h2;clear h hp hk h1 h2 hd;go_enter Tryz.func138, Tryz.ntmps138;go_wp2;go_loopw [11] (fun i wr=>∃(k:Nat) (v:Value),k<=2/\i = .int .i64 (k:Int)/\Hid (Us va p s mn P va.heap.size (va.heap.size+1) (us s mn k) v wr)) (fun i _=>2 - (intOf i).toNat)
 case atStart=>exact⟨0,_,by decide,rfl,I0.out⟩
 case round =>
  obtain⟨k,v,hk2,rfl,I⟩:=hrel;clear I0;by_cases hlt:k < 2
  ·have HU:Hid (us s mn (k+1)=if gO s mn (us s mn k) < gen (hb s (k*mn) mn) then some (k*mn) else us s mn k):=rfl
   obtain⟨o,ho⟩:∃o,us s mn k=o:=⟨_,rfl⟩;rw[ho] at I HU;clear ho;obtain⟨fr,hfr⟩:∃fr,k*mn=fr:=⟨_,rfl⟩;rw[hfr] at HU;have CP:wr.cell? ⟨P,k*3,none⟩=some (.pointer (some ⟨p,0,none⟩))/\wr.cell? ⟨P,k*3+1,none⟩=some (.int .i64 (fr:Int))/\wr.cell? ⟨P,k*3+2,none⟩=some (.int .i64 (mn:Int))/\fr+mn<=s.n/\fr<=512:=by
    have:=H2.out;rcases (by omega:k=0\/k=1) with rfl|rfl
    ·have e:fr=0:=by omega
     subst e;exact⟨I.out.pl.c 0 _ rfl,I.out.pl.c 1 _ rfl,I.out.pl.c 2 _ rfl,by omega,by omega⟩
    ·have e:fr=mn:=by omega
     subst e;exact⟨I.out.pl.c 3 _ rfl,I.out.pl.c 4 _ rfl,I.out.pl.c 5 _ rfl,by omega,by omega⟩
   obtain⟨c0,c1,c2,c3,c4⟩:=CP;have I1:Hid (Us va p s mn P va.heap.size (va.heap.size+1) o v (wr.alloc (.cells #[.pointer (some ⟨p,0,none⟩),.int .i64 (fr:Int),.int .i64 (mn:Int)] 235))):=I.out.later (nb _ _);have g1:(k:Int) < 2:=by omega
   have F1:Hid _:=FU.out _ fr I1.out.bl c3;have I1N:Hid (va.heap.size+2<=wr.heap.size):=I.out.bb.lt;clear I hfr;go_wp2_with fail;refine Calls.mono F1.out ?_;rintro e w2 ⟨v2,rfl,r2,n2,b2⟩;obtain⟨xa,xn,xc,rfl⟩:=owns_sliceS r2;have I2:Hid (Us va p s mn P va.heap.size (va.heap.size+1) o v w2/\OwnsS w2 (.slice xa xn xc) (fT s fr mn)/\(∀x,(Value.slice xa xn xc).ownBlock=some x->wr.heap.size<=x)):=⟨I1.out.later b2,r2,fun x e=>by have:=n2 x e;simp at this;omega⟩;have N2:Hid (va.heap.size+2<=wr.heap.size):=I1N.out;clear r2 n2 b2 I1 F1 c0 c1 c2;have HO:Hid (cO s p mn (.slice xa xn xc) (some fr)=hc p fr mn (gen (hb s fr mn)) (.slice xa xn xc) (fK s fr mn) (fM s fr mn) []/\tO s mn (some fr)=fT s fr mn):=⟨rfl,rfl⟩;obtain⟨g,hg⟩:∃g,gen (hb s fr mn)=g:=⟨_,rfl⟩;obtain⟨tk,htk⟩:∃tk,fK s fr mn=tk:=⟨_,rfl⟩;obtain⟨m,hmm⟩:∃m,fM s fr mn=m:=⟨_,rfl⟩;rw[hg,htk,hmm] at HO;rw[hg] at HU;rw[hg,htk,hmm];clear hg htk hmm;have e7:hv p fr mn g (.slice xa xn xc) tk m = .agg #[.pointer (some ⟨p,0,none⟩),.int .i64 (fr:Int),.int .i64 (mn:Int),.int .i64 (g:Int),.slice xa xn xc,.int .i64 (tk:Int),.string (st m)]:=rfl;rw[e7];clear e7
   have I3:Hid (Us va p s mn P va.heap.size (va.heap.size+1) o v (w2.alloc (.cells #[.pointer (some ⟨p,0,none⟩),.int .i64 (fr:Int),.int .i64 (mn:Int),.int .i64 (g:Int),.slice xa xn xc,.int .i64 (tk:Int),.string (st m)] 237))/\OwnsS (w2.alloc (.cells #[.pointer (some ⟨p,0,none⟩),.int .i64 (fr:Int),.int .i64 (mn:Int),.int .i64 (g:Int),.slice xa xn xc,.int .i64 (tk:Int),.string (st m)] 237)) (.slice xa xn xc) (fT s fr mn)):=⟨I2.out.1.later (nb _ _),ownsRow_same I2.out.2.1 (fun x e=>(nb w2 (.cells #[.pointer (some ⟨p,0,none⟩),.int .i64 (fr:Int),.int .i64 (mn:Int),.int .i64 (g:Int),.slice xa xn xc,.int .i64 (tk:Int),.string (st m)] 237)).block x (I2.out.2.1.lt x e).2)⟩;have NN:Hid ((Value.slice xa xn xc).ownBlock≠some va.heap.size/\(Value.slice xa xn xc).ownBlock≠some (va.heap.size+1)/\∀x,(Value.slice xa xn xc).ownBlock=some x->va.heap.size<=x):=by
    have h1:=N2.out;exact⟨fun e=>by have:=I2.out.2.2 _ e;omega,fun e=>by have:=I2.out.2.2 _ e;omega,fun x e=>by have:=I2.out.2.2 _ e;omega⟩
   have q3:=I3.out.1.bb.c 3 _ (cO_g s p mn v o);obtain⟨y,hy⟩:∃y,gO s mn o=y:=⟨_,rfl⟩;rw[hy] at q3 HU;clear hy I2;by_cases hgt:y < g
   ·have g2:(y:Int) < (g:Int):=by omega
    rw[if_pos hgt] at HU;obtain⟨x0,q0⟩:=I3.out.1.bb.ex 0 (by rw[zcP];decide);obtain⟨x1,q1⟩:=I3.out.1.bb.ex 1 (by rw[zcP];decide);obtain⟨x2,q2⟩:=I3.out.1.bb.ex 2 (by rw[zcP];decide);obtain⟨x4,q4⟩:=I3.out.1.bb.ex 4 (by rw[zcP];decide);obtain⟨x5,q5⟩:=I3.out.1.bb.ex 5 (by rw[zcP];decide);obtain⟨x6,q6⟩:=I3.out.1.bb.ex 6 (by rw[zcP];decide);have qf:=I3.out.1.bb.f;have FI:Hid (Us va p s mn P va.heap.size (va.heap.size+1) (some fr) (.slice xa xn xc) ((w2.alloc (.cells #[.pointer (some ⟨p,0,none⟩),.int .i64 (fr:Int),.int .i64 (mn:Int),.int .i64 (g:Int),.slice xa xn xc,.int .i64 (tk:Int),.string (st m)] 237)).setCells (va.heap.size+1) 0 (hc p fr mn g (.slice xa xn xc) tk m []))):=by
     have:=I3.out.1.better (o':=some fr) (v' := .slice xa xn xc) I3.out.2 NN.out.1 NN.out.2.1 NN.out.2.2;rw[HO.out.1] at this;exact this
    clear I3 HO NN;go_wp2;go_roundw
    case rel=>exact⟨k+1,.slice xa xn xc,by omega,rfl,by rw[HU.out];exact FI.out⟩
    case measure=>simp[intOf];omega
   ·have g2:¬(y:Int) < (g:Int):=by omega
    rw[if_neg hgt] at HU;have FI:Hid (Us va p s mn P va.heap.size (va.heap.size+1) o v (w2.alloc (.cells #[.pointer (some ⟨p,0,none⟩),.int .i64 (fr:Int),.int .i64 (mn:Int),.int .i64 (g:Int),.slice xa xn xc,.int .i64 (tk:Int),.string (st m)] 237))):=I3.out.1;clear I3 HO NN;go_wp2;go_roundw
    case rel=>exact⟨k+1,v,by omega,rfl,by rw[HU.out];exact FI.out⟩
    case measure=>simp[intOf];omega
  ·obtain rfl:k=2:=by omega
   obtain⟨o,ho⟩:∃o,us s mn 2=o:=⟨_,rfl⟩;rw[ho] at I;have HO:Hid (us s mn 2=o):=ho;clear ho;obtain⟨xa,xn,xc,rfl⟩:=owns_sliceS I.out.row;have z0:=I.out.bc.c 0 _ rfl;have z1:=I.out.bc.c 1 _ rfl;have z2:=I.out.bc.c 2 _ rfl;have z3:=I.out.bc.c 3 _ rfl;have z4:=I.out.bc.c 4 _ rfl;have z5:=I.out.bc.c 5 _ rfl;have z6:=I.out.bc.c 6 _ rfl;have zf:=I.out.bc.f;have FI:Hid _:=I.out.ret;have NV:Hid _:=I.out.nv;cases o with
   | none =>
    have k0:=I.out.bb.c 0 _ rfl;have k1:=I.out.bb.c 1 _ rfl;have k2:=I.out.bb.c 2 _ rfl;have k3:=I.out.bb.c 3 _ rfl;have k4:=I.out.bb.c 4 _ rfl;have k5:=I.out.bb.c 5 _ rfl;have k6:=I.out.bb.c 6 _ rfl;clear I;go_wp2;refine bodyPost_ret (v := .tuple #[.agg (cO s p mn (.slice xa xn xc) none).toArray,.int .i64 0]) ?_ rfl ⟨.slice xa xn xc,by rw[HO.out],by rw[HO.out];exact FI.out.2.2,NV.out,FI.out.2.1⟩;exact zbp Tryz.results138 _ _ va.heap.size _ _ (by kernel_rfl) (by kernel_rfl) (run_loadVar_mid _ va.heap.size 0 237 (cO s p mn (.slice xa xn xc) none) _ FI.out.1.r Tryz.underlying237 rfl (by kernel_rfl))
   | some fr =>
    have k0:=I.out.bb.c 0 _ rfl;have k1:=I.out.bb.c 1 _ rfl;have k2:=I.out.bb.c 2 _ rfl;have k3:=I.out.bb.c 3 _ rfl;have k4:=I.out.bb.c 4 _ rfl;have k5:=I.out.bb.c 5 _ rfl;have k6:=I.out.bb.c 6 _ rfl;clear I;go_wp2;refine bodyPost_ret (v := .tuple #[.agg (cO s p mn (.slice xa xn xc) (some fr)).toArray,.int .i64 0]) ?_ rfl ⟨.slice xa xn xc,by rw[HO.out],by rw[HO.out];exact FI.out.2.2,NV.out,FI.out.2.1⟩;exact zbp Tryz.results138 _ _ va.heap.size _ _ (by kernel_rfl) (by kernel_rfl) (run_loadVar_mid _ va.heap.size 0 237 (cO s p mn (.slice xa xn xc) (some fr)) _ FI.out.1.r Tryz.underlying237 rfl (by kernel_rfl))
def zgF (P:World->Prop) (E:Int->World->Prop) (e:Ending) (w':World):Prop:=∃x,e = .returned (.int .i64 x)/\(x=0/\P w'\/x≠0/\E x w')
def fsv (q p fr mn:Nat):List Value:=[.func (.func 141) #[.pointer (some ⟨q,0,none⟩)] #[],.func (.func 218) #[.pointer (some ⟨q,0,none⟩)] #[],.func (.func 209) #[plc p fr mn] #[],.func (.func 219) #[.pointer (some ⟨q,0,none⟩)] #[],.func (.func 209) #[plc p fr mn] #[]]
theorem zgG (q p fr mn C:Nat) (P:Nat->World->Prop) (E:Int->World->Prop)
  (hc:Hid (∀k wr,k < 5->P k wr->Blk wr C (fsv q p fr mn)))
  (S0:Hid (∀wr,P 0 wr->Cl 141 #[.pointer (some ⟨q,0,none⟩)] wr fun e w'=>zgF (P 1) E e w'))
  (S1:Hid (∀wr,P 1 wr->Cl 218 #[.pointer (some ⟨q,0,none⟩)] wr fun e w'=>zgF (P 2) E e w'))
  (S2:Hid (∀wr,P 2 wr->Cl 209 #[plc p fr mn] wr fun e w'=>zgF (P 3) E e w'))
  (S3:Hid (∀wr,P 3 wr->Cl 219 #[.pointer (some ⟨q,0,none⟩)] wr fun e w'=>zgF (P 4) E e w'))
  (S4:Hid (∀wr,P 4 wr->Cl 209 #[plc p fr mn] wr fun e w'=>zgF (P 5) E e w'))
  (va:World) (h:Hid (P 0 va)):Cl 217 #[.slice (some ⟨C,0,none⟩) 5 5] va fun e w'=>zgF (P 5) E e w':=by
 unfold plc at *;go_enter Tryz.func217, Tryz.ntmps217;go_wp2;go_loopw [8] (fun i wr=>∃k:Nat,k<=5/\i = .int .i64 (k:Int)/\Hid (P k wr)) (fun i _=>5 - (intOf i).toNat)
 case atStart=>exact⟨0,by decide,rfl,h.out⟩
 case round =>
  obtain⟨k,hk5,rfl,I⟩:=hrel;clear h;by_cases hlt:k < 5
  ·have B:=hc.out k wr hlt I.out
   rcases (by omega:k=0\/k=1\/k=2\/k=3\/k=4) with rfl|rfl|rfl|rfl|rfl
   ·have c0:=B.c 0 _ rfl
    have ST:Hid _:=S0.out wr I.out;clear S0 S1 S2 S3 S4 hc B I;unfold plc at *;go_wp2_with fail;refine Calls.mono ST.out ?_;rintro e w1 ⟨x,rfl,hx⟩;by_cases h0:x=0
    ·subst h0
     have J:Hid (P 1 w1):=by
      rcases hx with ⟨-,h⟩|⟨h,-⟩
      ·exact h
      ·exact absurd rfl h
     clear hx c0 ST;go_wp2;go_roundw
     case rel=>exact⟨1,by decide,rfl,J.out⟩
     case measure=>simp[intOf]
    ·have J:Hid (E x w1):=by
      rcases hx with ⟨h,-⟩|⟨-,h⟩
      ·exact absurd h h0
      ·exact h
     clear hx c0 ST;go_wp2;go_ret;exact⟨x,rfl,.inr ⟨h0,J.out⟩⟩
   ·have c0:=B.c 1 _ rfl
    have ST:Hid _:=S1.out wr I.out;clear S0 S1 S2 S3 S4 hc B I;unfold plc at *;go_wp2_with fail;refine Calls.mono ST.out ?_;rintro e w1 ⟨x,rfl,hx⟩;by_cases h0:x=0
    ·subst h0
     have J:Hid (P 2 w1):=by
      rcases hx with ⟨-,h⟩|⟨h,-⟩
      ·exact h
      ·exact absurd rfl h
     clear hx c0 ST;go_wp2;go_roundw
     case rel=>exact⟨2,by decide,rfl,J.out⟩
     case measure=>simp[intOf]
    ·have J:Hid (E x w1):=by
      rcases hx with ⟨h,-⟩|⟨-,h⟩
      ·exact absurd h h0
      ·exact h
     clear hx c0 ST;go_wp2;go_ret;exact⟨x,rfl,.inr ⟨h0,J.out⟩⟩
   ·have c0:=B.c 2 _ rfl
    have ST:Hid _:=S2.out wr I.out;clear S0 S1 S2 S3 S4 hc B I;unfold plc at *;go_wp2_with fail;refine Calls.mono ST.out ?_;rintro e w1 ⟨x,rfl,hx⟩;by_cases h0:x=0
    ·subst h0
     have J:Hid (P 3 w1):=by
      rcases hx with ⟨-,h⟩|⟨h,-⟩
      ·exact h
      ·exact absurd rfl h
     clear hx c0 ST;go_wp2;go_roundw
     case rel=>exact⟨3,by decide,rfl,J.out⟩
     case measure=>simp[intOf]
    ·have J:Hid (E x w1):=by
      rcases hx with ⟨h,-⟩|⟨-,h⟩
      ·exact absurd h h0
      ·exact h
     clear hx c0 ST;go_wp2;go_ret;exact⟨x,rfl,.inr ⟨h0,J.out⟩⟩
   ·have c0:=B.c 3 _ rfl
    have ST:Hid _:=S3.out wr I.out;clear S0 S1 S2 S3 S4 hc B I;unfold plc at *;go_wp2_with fail;refine Calls.mono ST.out ?_;rintro e w1 ⟨x,rfl,hx⟩;by_cases h0:x=0
    ·subst h0
     have J:Hid (P 4 w1):=by
      rcases hx with ⟨-,h⟩|⟨h,-⟩
      ·exact h
      ·exact absurd rfl h
     clear hx c0 ST;go_wp2;go_roundw
     case rel=>exact⟨4,by decide,rfl,J.out⟩
     case measure=>simp[intOf]
    ·have J:Hid (E x w1):=by
      rcases hx with ⟨h,-⟩|⟨-,h⟩
      ·exact absurd h h0
      ·exact h
     clear hx c0 ST;go_wp2;go_ret;exact⟨x,rfl,.inr ⟨h0,J.out⟩⟩
   ·have c0:=B.c 4 _ rfl
    have ST:Hid _:=S4.out wr I.out;clear S0 S1 S2 S3 S4 hc B I;unfold plc at *;go_wp2_with fail;refine Calls.mono ST.out ?_;rintro e w1 ⟨x,rfl,hx⟩;by_cases h0:x=0
    ·subst h0
     have J:Hid (P 5 w1):=by
      rcases hx with ⟨-,h⟩|⟨h,-⟩
      ·exact h
      ·exact absurd rfl h
     clear hx c0 ST;go_wp2;go_roundw
     case rel=>exact⟨5,by decide,rfl,J.out⟩
     case measure=>simp[intOf]
    ·have J:Hid (E x w1):=by
      rcases hx with ⟨h,-⟩|⟨-,h⟩
      ·exact absurd h h0
      ·exact h
     clear hx c0 ST;go_wp2;go_ret;exact⟨x,rfl,.inr ⟨h0,J.out⟩⟩
  ·obtain rfl:k=5:=by omega
   have FF:Hid (P 5 wr):=I.out;clear S0 S1 S2 S3 S4 hc;go_wp2;go_ret;exact⟨0,rfl,.inl ⟨rfl,FF.out⟩⟩
end Go.Proofs.YtjcppbhgjchjaaaGreatDoor.Sto
