/- Parts: YsH,YsI,DkRs. -/
import Derived.Test.YtjpaodepnacimaaGreatDoorZdG33
import Derived.Test.YtjpaodepnacimaaGreatDoorZdG29
import Derived.Test.YtjpaodepnacimaaGreatDoorZdG13
namespace Go.Proofs.YtjpaodepnacimaaGreatDoor
open Go.RowKit Go.Proofs.Fd Go.Proofs.Dk Go.Proofs.Lg Go.Proofs.Bx
set_option maxRecDepth 20000
theorem ints_old {w:World} {a:Option Addr} {cs:List Int} (h:IntAt w a cs):∀x,a=some x→0 < cs.length→x.block < w.heap.size:=fun x hx h0=>by
 obtain⟨b,o,e,hc⟩:=h 0 h0
 rw[e] at hx
 injection hx with hx
 subst hx
 exact World.block_lt_of_cell? _ _ hc
structure IvY (n:Nat) (most:Int) (k:Nat) (s:St) (o:Oe):Prop where
 n:s.n=n
 h:Hp (Hd7 (k+1)) s
 l:s.l.length≤12000*k
 g:∀x E,o=some (x,E)→x.g≤k+1∧Bx.Us E∧Gm (600+k) (ofE E)∧1≤most∧most≤256
def PsY (w:World) (B:Nat) (most:Int) (p d n k:Nat) (w':World):Prop:=∃s o,BoY w w' B most p d s o∧IvY n most k s o
theorem IvY.up {n:Nat} {most:Int} {k:Nat} {s:St} {o:Oe} (h:IvY n most k s o):IvY n most (k+1) s o :=
 ⟨h.n,h.h.up7 (Nat.le_succ _),by have:=h.l;omega,fun x E e=>by
  obtain⟨g1,g2,g3,g4⟩:=h.g x E e
  exact⟨Nat.le_succ_of_le g1,g2,g3.mono (Nat.le_succ _),g4⟩⟩
section
variable {w wr:World} {B:Nat} {most:Int} {p d:Nat} {s:St} {o:Oe}
theorem BtY.nils {pv pk:Option Addr} {Ft Gt:Nat→Prop} (h:BtY w wr B most p d s o pv pk Ft Gt):(o=none↔pv=none)∧(o=none↔pk=none):=by
 match o,h.pp,h.rp with
 | none,⟨e1,_⟩,⟨e2,_⟩=>exact⟨⟨fun _=>e1,fun _=>rfl⟩,⟨fun _=>e2,fun _=>rfl⟩⟩
 | some (x,E),⟨q,b,F,v,vs,e1,_⟩,⟨q',b',G,v',u,e2,_⟩ =>
  rw[e1,e2]
  exact⟨⟨(fun c=>by cases c),(fun c=>by cases c)⟩,⟨(fun c=>by cases c),(fun c=>by cases c)⟩⟩
theorem BoY.lo {x:Lo} {E:List En} (h:BoY w wr B most p d s (some (x,E))):x.h≤1∧4≤s.n∧x.ts.length≤512:=by
 obtain⟨pv,pk,Ft,Gt,k⟩:=h
 obtain⟨q,b,F,v,vs,e1,z,-⟩:=k.pp
 refine⟨z.lz.h1,z.lz.n4,?_⟩
 have h1:=z.lz.tk
 have h2:=z.lz.n2
 have h3:1+x.ts.length≤x.tk:=tkn_ge_len x.ts
 omega
theorem BoY.below (h:BoY w wr B most p d s o):Below w.heap.size w wr:=by
 obtain⟨pv,pk,Ft,Gt,k⟩:=h
 exact k.pp.size
theorem BoY.start (h:BoY w wr B most p d s o):∃pv pk U0,(∀W,Below wr.heap.size wr W→BxY w W U0 W B most p d s o s o pv pk)∧(∀z,U0 z→z < wr.heap.size)∧(o=none↔pv=none)∧(o=none↔pk=none):=by
 obtain⟨pv,pk,Ft,Gt,k⟩:=h
 refine⟨pv,pk,UU Ft Gt B,fun W hb=>⟨Ft,Gt,k.b2.later hb,Nx.refl _ _,Bf.refl _ _⟩,fun z c => ?_,k.nils.1,k.nils.2⟩
 rcases c with c|c|c
 ·exact k.pp.lt c
 ·exact k.rp.lt c
 ·rw[c];exact k.bk.lt
end
section
variable {w w0:World} {U0:Nat→Prop} {wr:World} {B A:Nat} {most:Int} {p d:Nat} {sP sR:St} {ps pk:Option Addr} {k0 k1 k2:Int} {X T I P:Value}
theorem Sx2.fa (h:Sx2 w w0 U0 wr B most p d sP sR ps pk) (hU:¬U0 A) (c0:w0.cell? ⟨A,0,none⟩=some (.int .i64 k0)) (c1:w0.cell? ⟨A,1,none⟩=some (.int .i64 k1)) (c2:w0.cell? ⟨A,2,none⟩=some (.int .i64 k2)) (c3:w0.cell? ⟨A,3,none⟩=some X) (c4:w0.cell? ⟨A,4,none⟩=some T) (c5:w0.cell? ⟨A,5,none⟩=some I) (c6:w0.cell? ⟨A,6,none⟩=some P):FA B A p d ps pk k0 k1 k2 X T I P wr:=by
 obtain⟨F,G,k,nn,ff⟩:=h
 exact⟨k.bk.c 1 _ rfl,k.bk.c 2 _ rfl,k.bk.c 3 _ rfl,k.bk.c 4 _ rfl,ff.cell c0 hU,ff.cell c1 hU,ff.cell c2 hU,ff.cell c3 hU,ff.cell c4 hU,ff.cell c5 hU,ff.cell c6 hU⟩
theorem Sx2.ok (h:Sx2 w w0 U0 wr B most p d sP sR ps pk):Ok sR:=by
 obtain⟨F,G,k,nn,ff⟩:=h
 exact k.at_.1
theorem Sx2.down (h:Sx2 w w0 U0 wr B most p d sP sR ps pk):wr.cell? ⟨d,3,none⟩=some (.bool sR.down):=by
 obtain⟨F,G,k,nn,ff⟩:=h
 obtain⟨-,sg,sc,v,-,hr⟩:=k.at_
 exact hr.c3
theorem Sx2.below (h:Sx2 w w0 U0 wr B most p d sP sR ps pk):Below w.heap.size w wr:=by
 obtain⟨F,G,k,nn,ff⟩:=h
 exact k.dl.below
theorem BxY.bo {s:St} {o:Oe} (h:BxY w w0 U0 wr B most p d s o s o ps pk):BoY w wr B most p d s o:=by
 obtain⟨Ft,Gt,k,nn,ff⟩:=h
 exact k.bt.bo
theorem BxY.old {oP oR:Oe} (h:BxY w w0 U0 wr B most p d sP oP sR oR ps pk):Bf U0 w0 wr:=by
 obtain⟨Ft,Gt,k,nn,ff⟩:=h
 exact ff
end
section
variable (wr:World) (k0 k1 k2:Int) (X T:ByteArray) (ia:Option Addr) (im ic:Nat) (pa:Option Addr) (pn pc:Nat) (t:TypeId)
theorem actY_cells:(wr.alloc (.cells #[.int .i64 k0,.int .i64 k1,.int .i64 k2,.string X,.string T,.slice ia im ic,.slice pa pn pc] t)).cell? ⟨wr.heap.size,0,none⟩=some (.int .i64 k0)∧(wr.alloc (.cells #[.int .i64 k0,.int .i64 k1,.int .i64 k2,.string X,.string T,.slice ia im ic,.slice pa pn pc] t)).cell? ⟨wr.heap.size,1,none⟩=some (.int .i64 k1)∧(wr.alloc (.cells #[.int .i64 k0,.int .i64 k1,.int .i64 k2,.string X,.string T,.slice ia im ic,.slice pa pn pc] t)).cell? ⟨wr.heap.size,2,none⟩=some (.int .i64 k2)∧(wr.alloc (.cells #[.int .i64 k0,.int .i64 k1,.int .i64 k2,.string X,.string T,.slice ia im ic,.slice pa pn pc] t)).cell? ⟨wr.heap.size,3,none⟩=some (.string X)∧(wr.alloc (.cells #[.int .i64 k0,.int .i64 k1,.int .i64 k2,.string X,.string T,.slice ia im ic,.slice pa pn pc] t)).cell? ⟨wr.heap.size,4,none⟩=some (.string T)∧(wr.alloc (.cells #[.int .i64 k0,.int .i64 k1,.int .i64 k2,.string X,.string T,.slice ia im ic,.slice pa pn pc] t)).cell? ⟨wr.heap.size,5,none⟩=some (.slice ia im ic)∧(wr.alloc (.cells #[.int .i64 k0,.int .i64 k1,.int .i64 k2,.string X,.string T,.slice ia im ic,.slice pa pn pc] t)).cell? ⟨wr.heap.size,6,none⟩=some (.slice pa pn pc) :=
 ⟨by simp[go_sem],by simp[go_sem],by simp[go_sem],by simp[go_sem],by simp[go_sem],by simp[go_sem],by simp[go_sem]⟩
end
theorem hd7_4 {N:Nat} {s:St} (h:Hp (Hd7 N) s):Hh s:=h.imp fun b c=>by
 unfold Hd4
 rw[c.1]
 decide
theorem bopenedY_any (w w0:World) (U0:Nat→Prop) (wr:World) (B:Nat) (most:Int) (p d n k:Nat) (hn:n≤80) (hk30:k≤31) (s:St) (ps pk:Option Addr) (hk:Kh w) (h1:s.n=n) (h2:Hp (Hd7 (k+1)) s) (h3:s.l.length≤12000*k+400) (h:Sx2 w w0 U0 wr B most p d s s ps pk) :
  Calls Tryz.prog 8 #[.pointer (some ⟨B,0,none⟩)] wr fun e w1=>e = .returned (.bool true)∧PsY w B most p d n (k+1) w1:=by
 have ok:=h.ok
 obtain⟨F,G,sd,-,-⟩:=h.sd
 refine (bopenY_any w wr B most p d F G s ps pk (by omega) (by omega) hk sd).mono ?_
 rintro e w1 ⟨e1,e2⟩
 have kp:=kp_opX ok most
 have kl:=kp.l
 obtain⟨r1,r2⟩:=opEn_of most s (opn s)
 obtain⟨hq1,hq2⟩:=hq_opX (N:=k+1) (q:=most) ok h2 (by omega) (by omega)
 refine⟨e1,_,_,e2,?_,?_,?_,fun x E ex => ?_⟩
 ·rw[r1];exact kp.n.trans h1
 ·rw[r1];exact hq1.up7 (Nat.le_succ _)
 ·rw[r1];omega
 ·have us:=Us.op ex
  rw[ex] at e2 r2
  have lo:=e2.lo
  have gz:=gm_opX r2.symm
  have hg:=hq2 x (ofE E) r2.symm
  have g1:Gm x.ts.length (ofE E):=gz.1
  exact⟨by omega,us,g1.mono (by omega),gz.2.2.2⟩
theorem bouterY_any (w:World) (hk:Kh w) (B:Nat) (most:Int) (p d n k:Nat) (hn:n≤80) (hk30:k≤30) (s:St) (o:Oe) (k0 k1 k2:Int) (X T:ByteArray) (ia:Option Addr) (im ic:Nat) (pa:Option Addr) (pn pc:Nat) (l:List Int) (hp:IntAt w pa l) (hpn:l.length=pn) (m:Nat) (hm:m=3∨m=4∨m=5) (AM:Hid (∀w,Calls Tryz.prog 14 #[.int .i64 k0,.int .i64 6] w fun e w'=>e = .returned (.int .i64 (m:Int))∧w'=w)) (wr:World) (b:BoY w wr B most p d s o) (iv:IvY n most k s o) :
  Calls Tryz.prog 25 #[.pointer (some ⟨B,0,none⟩),.agg #[.int .i64 k0,.int .i64 k1,.int .i64 k2,.string X,.string T,.slice ia im ic,.slice pa pn pc]] wr fun e w'=>e = .returned (.bool true)∧PsY w B most p d n (k+1) w':=by
 obtain⟨ps,pk,U0,bxW,hUl,-,-⟩:=b.start
 have hU:¬U0 wr.heap.size:=fun c=>Nat.lt_irrefl _ (hUl _ c)
 have bx:=bxW _ (nb wr (.cells #[.int .i64 k0,.int .i64 k1,.int .i64 k2,.string X,.string T,.slice ia im ic,.slice pa pn pc] 40))
 obtain⟨a0,a1,a2,a3,a4,a5,a6⟩:=actY_cells wr k0 k1 k2 X T ia im ic pa pn pc 40
 have sx:=bx.sx
 have ok:=sx.ok
 obtain⟨i1,i2,i3,i4⟩:=iv
 have hlt:=ints_old hp
 obtain⟨W1,hW1⟩:∃W,wr.alloc (.cells #[.int .i64 k0,.int .i64 k1,.int .i64 k2,.string X,.string T,.slice ia im ic,.slice pa pn pc] 40)=W:=⟨_,rfl⟩
 rw[hW1] at bx sx a0 a1 a2 a3 a4 a5 a6
 have fa:∀{W:World} {sP sR:St},Sx2 w W1 U0 W B most p d sP sR ps pk→FA B wr.heap.size p d ps pk k0 k1 k2 (.string X) (.string T) (.slice ia im ic) (.slice pa pn pc) W:=fun z=>z.fa hU a0 a1 a2 a3 a4 a5 a6
 obtain rfl|rfl|rfl:=hm
 ·refine outer_fuse B wr.heap.size p d ps pk k0 k1 k2 X T ia im ic pa pn pc (PsY w B most p d n (k+1)) wr rfl (fun W=>BxY w W1 U0 W B most p d s o s o ps pk) (fun W=>BxY w W1 U0 W B most p d (fuS s k2) o s o ps pk) (fuE s k2) AM (fun W z=>BxY.later z (Below.refl _ _).drew) (by rw[hW1];exact⟨bx,fa sx⟩) ?_ ?_
  ·intro W z
   exact (bfuPY_any w W1 U0 W B most p d s o s o ps pk k2 z).mono fun _ _ ⟨x1,x2⟩=>⟨x1,fa x2.sx,x2⟩
  ·intro W z
   refine (bfuRY_any w W1 U0 W B most p d _ o s o ps pk k2 z).mono fun _ _ ⟨x1,x2⟩=>⟨x1,fa x2.sx,_,_,x2.bo,?_⟩
   have kp:=kp_fuse s k2
   have kl:=kp.l
   exact⟨kp.n.trans i1,(i2.fuse k2).up7 (Nat.le_succ _),by omega,(IvY.up ⟨i1,i2,i3,i4⟩).g⟩
 ·have kc:=kp_crash ok l
  have cl:=kc.l
  refine outer_crash B wr.heap.size p d ps pk k0 k1 k2 X T ia im ic pa pn pc (PsY w B most p d n (k+1)) wr rfl (fun W=>Sx2 w W1 U0 W B most p d s s ps pk) (fun W=>Sx2 w W1 U0 W B most p d (crS s l) s ps pk) (fun W=>Sx2 w W1 U0 W B most p d (crS s l) (crS s l) ps pk) AM (fun W z=>Sx2.later z (Below.refl _ _).drew) (fun W z=>Sx2.later z (Below.refl _ _).drew) (by rw[hW1];exact⟨sx,fa sx⟩) ?_ ?_ ?_
  ·intro W z
   exact (bcrashP_any w W1 U0 W B most p d s s ps pk pa pn pc l hpn (by omega) hp hlt z).mono fun _ _ ⟨x1,x2⟩=>⟨x1,fa x2,x2⟩
  ·intro W z
   exact (bcrashR_any w W1 U0 W B most p d _ s ps pk pa pn pc l hpn (by omega) hp hlt z).mono fun _ _ ⟨x1,x2⟩=>⟨x1,fa x2,x2⟩
  ·intro W z
   exact bopenedY_any w W1 U0 W B most p d n k hn (by omega) _ ps pk hk (kc.n.trans i1) (i2.crash (cl7 _) ok l) (by omega) z
 ·have kc:=kp_crash ok l
  have ch7:Hp (Hd7 (k+1)) (crS s l):=i2.crash (cl7 _) ok l
  obtain⟨s1,hs1⟩:∃s1,crS s l=s1:=⟨_,rfl⟩
  have cl:s1.l.length≤12000*k:=by have:=kc.l;rw[hs1] at this;omega
  have cn:s1.n=n:=by have:=kc.n;rw[hs1] at this;omega
  rw[hs1] at ch7
  have hO:∀{W:World},Sx2 w W1 U0 W B most p d s1 s1 ps pk→Kp s1 (opn s1).1.2 162∧Hp (Hd7 (k+1)) (opn s1).1.2∧((opn s1).1.1=0→(opn s1).2.h≤1):=fun z=>by
   have ok1:=z.ok
   have q1:=kp_opn ok1
   exact⟨q1.mono (by omega),ch7.opn (cl7 _) (hd7_hd (by omega) (by omega)),fun e=>(opn_ok e ok1).2.1⟩
  refine outer_foreign B wr.heap.size p d ps pk k0 k1 k2 X T ia im ic pa pn pc (PsY w B most p d n (k+1)) wr rfl
   (fun W=>Sx2 w W1 U0 W B most p d s s ps pk) (fun W=>Sx2 w W1 U0 W B most p d s1 s ps pk) (fun W=>Sx2 w W1 U0 W B most p d s1 s1 ps pk∧Kp s1 (opn s1).1.2 162∧Hp (Hd7 (k+1)) (opn s1).1.2∧((opn s1).1.1=0→(opn s1).2.h≤1))
   (fun pl W=>Lx w W1 U0 W B most p d (opn s1).1.2 (oLo (opn s1)) s1 none ps pk pl none∧Kp s1 (opn s1).1.2 162∧Hp (Hd7 (k+1)) (opn s1).1.2∧((opn s1).1.1=0→(opn s1).2.h≤1))
   (fun pl kl W=>Lx w W1 U0 W B most p d (opn s1).1.2 (oLo (opn s1)) (opn s1).1.2 (oLo (opn s1)) ps pk pl kl∧Kp s1 (opn s1).1.2 162∧Hp (Hd7 (k+1)) (opn s1).1.2∧((opn s1).1.1=0→(opn s1).2.h≤1))
   (fun pl kl W=>Lx w W1 U0 W B most p d (app (opn s1).1.2 (opn s1).2 T.data.toList).1.2 (some (app (opn s1).1.2 (opn s1).2 T.data.toList).2) (opn s1).1.2 (some (opn s1).2) ps pk pl kl∧Kp s1 (app (opn s1).1.2 (opn s1).2 T.data.toList).1.2 202∧Hp (Hd7 (k+1)) (app (opn s1).1.2 (opn s1).2 T.data.toList).1.2∧Kp s1 (opn s1).1.2 162)
   (fun pl kl W=>Lx w W1 U0 W B most p d (app (opn s1).1.2 (opn s1).2 T.data.toList).1.2 (some (app (opn s1).1.2 (opn s1).2 T.data.toList).2) (app (opn s1).1.2 (opn s1).2 T.data.toList).1.2 (some (app (opn s1).1.2 (opn s1).2 T.data.toList).2) ps pk pl kl∧Kp s1 (app (opn s1).1.2 (opn s1).2 T.data.toList).1.2 202∧Hp (Hd7 (k+1)) (app (opn s1).1.2 (opn s1).2 T.data.toList).1.2)
   (fun pl kl W=>Lx w W1 U0 W B most p d (syS (app (opn s1).1.2 (opn s1).2 T.data.toList).1.2) (some (app (opn s1).1.2 (opn s1).2 T.data.toList).2) (app (opn s1).1.2 (opn s1).2 T.data.toList).1.2 (some (app (opn s1).1.2 (opn s1).2 T.data.toList).2) ps pk pl kl∧Kp s1 (app (opn s1).1.2 (opn s1).2 T.data.toList).1.2 202∧Hp (Hd7 (k+1)) (app (opn s1).1.2 (opn s1).2 T.data.toList).1.2)
   (fun pl kl W=>Lx w W1 U0 W B most p d (syS (app (opn s1).1.2 (opn s1).2 T.data.toList).1.2) (some (app (opn s1).1.2 (opn s1).2 T.data.toList).2) (syS (app (opn s1).1.2 (opn s1).2 T.data.toList).1.2) (some (app (opn s1).1.2 (opn s1).2 T.data.toList).2) ps pk pl kl∧Kp s1 (app (opn s1).1.2 (opn s1).2 T.data.toList).1.2 202∧Hp (Hd7 (k+1)) (app (opn s1).1.2 (opn s1).2 T.data.toList).1.2)
   (opn s1).1.1 (app (opn s1).1.2 (opn s1).2 T.data.toList).1.1 (syE (app (opn s1).1.2 (opn s1).2 T.data.toList).1.2) AM ?_ ?_ ?_ ?_ ?_ ?_ ?_ ?_ ?_ ?_ ?_ ?_ ?_ ?_
  ·exact fun a b W z=>⟨Lx.later z.1 (Below.refl _ _).drew,z.2⟩
  ·exact fun W z=>Sx2.later z (Below.refl _ _).drew
  ·exact fun W z=>Sx2.later z (Below.refl _ _).drew
  ·rw[hW1]
   exact⟨sx,fa sx⟩
  ·intro W z
   have:=bcrashP_any w W1 U0 W B most p d s s ps pk pa pn pc l hpn (by omega) hp hlt z
   rw[hs1] at this
   exact this.mono fun _ _ ⟨x1,x2⟩=>⟨x1,fa x2,x2⟩
  ·intro W z
   have:=bcrashR_any w W1 U0 W B most p d s1 s ps pk pa pn pc l hpn (by omega) hp hlt z
   rw[hs1] at this
   exact this.mono fun _ _ ⟨x1,x2⟩=>⟨x1,fa x2,x2,hO x2⟩
  ·intro W ⟨z,zz⟩
   refine (flopenP_any w W1 U0 W B most p d s1 s1 none ps pk none (by omega) (by omega) hk z.lx).mono ?_
   rintro e w1 ⟨pl,x1,x2,x3⟩
   refine⟨pl,x1,fa x2.sx,⟨x2,zz⟩,?_⟩
   unfold oLo at x3
   by_cases c:(opn s1).1.1=0
   ·rw[if_pos c] at x3
    exact⟨fun _ e=>(by have:=x3.2 e;cases this),fun _=>c⟩
   ·rw[if_neg c] at x3
    exact⟨fun e=>absurd e c,fun e=>absurd (x3.1 rfl) e⟩
  ·intro W pl ⟨z,zz⟩
   refine (flopenR_any w W1 U0 W B most p d (opn s1).1.2 s1 (oLo (opn s1)) ps pk pl (by omega) (by omega) (hd7_4 ch7) z).mono ?_
   rintro e w1 ⟨kl,x1,x2,x3⟩
   refine⟨kl,x1,fa x2.sx,⟨x2,zz⟩,?_⟩
   unfold oLo at x3
   by_cases c:(opn s1).1.1=0
   ·rw[if_pos c] at x3
    exact⟨fun _ e=>(by have:=x3.2 e;cases this),fun _=>c⟩
   ·rw[if_neg c] at x3
    exact⟨fun e=>absurd e c,fun e=>absurd (x3.1 rfl) e⟩
  ·intro W a b hz ⟨z,zz,z7,zh⟩
   have e2:oLo (opn s1)=some (opn s1).2:=if_pos hz
   rw[e2] at z
   have zl:=zz.l
   refine (flappP_any w W1 U0 W B most p d (opn s1).1.2 (opn s1).1.2 (opn s1).2 (some (opn s1).2) ps pk (some a) (some b) T (by omega) hk z).mono ?_
   rintro e w1 ⟨x1,x2⟩
   exact⟨x1,fa x2.sx,x2,(zz.trans (kp_app (zh hz) T.data.toList)).mono (by omega),z7.app (zh hz) T.data.toList,zz⟩
  ·intro W a b hz ⟨z,zz,z7,zy⟩
   have zl:=zy.l
   refine (flappR_any w W1 U0 W B most p d _ (opn s1).1.2 (opn s1).2 _ ps pk (some a) (some b) T (by omega) z).mono ?_
   rintro e w1 ⟨x1,x2⟩
   exact⟨x1,fa x2.sx,x2,zz,z7⟩
  ·intro W a b hz ⟨z,zz⟩
   have zl:=zz.1.l
   refine (flsyncP_any w W1 U0 W B most p d _ _ _ _ ps pk (some a) (some b) (by omega) z).mono ?_
   rintro e w1 ⟨x1,x2⟩
   exact⟨x1,fa x2.sx,x2,zz⟩
  ·intro W a b hz ⟨z,zz⟩
   have zl:=zz.1.l
   refine (flsyncR_any w W1 U0 W B most p d _ _ _ _ ps pk (some a) (some b) (by omega) z).mono ?_
   rintro e w1 ⟨x1,x2⟩
   exact⟨x1,fa x2.sx,x2,zz⟩
  ·intro W a b hz ⟨z,zz,z7⟩
   have ks:=zz.trans (kp_sync (app (opn s1).1.2 (opn s1).2 T.data.toList).1.2)
   have kl:=ks.l
   exact bopenedY_any w W1 U0 W B most p d n k hn (by omega) _ ps pk hk (ks.n.trans cn) z7.sync (by omega) z.sx
  ·intro W hz ⟨z,zz,z7,zh⟩
   have kl:=zz.l
   exact bopenedY_any w W1 U0 W B most p d n k hn (by omega) _ ps pk hk (zz.n.trans cn) z7 (by omega) z.sx
theorem bsame_any (a b:Option Addr) (n c c2:Nat) (l:List Bs) (hn:l.length=n) (hnb:n≤10000000000000) (w:World) (h1:Hid (TxAt w a l)) (h2:Hid (TxAt w b l)) :
  Calls Tryz.prog 31 #[.slice a n c,.slice b n c2] w fun e w'=>e = .returned (.bool true)∧Below w.heap.size w w':=by
 have HN:Hid (l.length=n):=hn
 clear hn
 go_enter Tryz.func31, Tryz.ntmps31
 go_wp2
 go_loopw [5] (fun i wr=>∃k:Nat,k≤n∧i = .int .i64 (k:Int)∧Hid (Below w.heap.size w wr)) (fun i _=>n - (intOf i).toNat)
 case atStart=>exact⟨0,Nat.zero_le _,rfl,Below.refl _ _⟩
 case round =>
  obtain⟨k,hk,rfl,J⟩:=hrel
  by_cases hlt:k < n
  ·have hkl:k < l.length:=by rw[HN.out];exact hlt
   have g1:(k:Int) < (n:Int):=by omega
   obtain⟨b1,o1,rfl,c1⟩:=(h1.out.later J.out) k hkl
   obtain⟨b2,o2,rfl,c2⟩:=(h2.out.later J.out) k hkl
   unfold sv at c1 c2
   obtain⟨T,hT⟩:∃T,st l[k]=T:=⟨_,rfl⟩
   rw[hT] at c1 c2
   have J2:Hid (Below w.heap.size w wr.drew):=J.out.drew
   clear hT J
   go_wp2_with fail
   go_region_with fail
   all_goals
    go_wp2
    go_roundw
    case rel=>exact⟨k+1,by omega,rfl,J2.out⟩
    case measure=>simp[intOf];omega
  ·have g1:¬(k:Int) < (n:Int):=by omega
   go_wp2
   go_ret
   exact⟨rfl,J.out⟩
theorem gcopy_tx (w:World) (a:Option Addr) (n c:Nat) (l:List Bs) (hn:l.length=n) (hl:n*16≤140737488355328) (tx:TxAt w a l) :
  ∃a1 c1 w1,(Builtin.append_ #[37, 37] 37 #[.slice (some ⟨w.heap.size,0,none⟩) 0 0,.slice a n c]).run Tryz.prog (w.alloc (.cells #[] 9)) = .ok (.slice a1 n c1) w1∧TxAt w1 a1 l∧Below w.heap.size w w1∧(∀x,a1=some x→w.heap.size≤x.block):=by
 obtain⟨i0,hi,hz0,hz1,hz2⟩:=info_parts infoS
 have hb0:Below w.heap.size w (w.alloc (.cells #[] 9)):=nb w _
 have o0:(w.alloc (.cells #[] 9)).ownsRow w.heap.size 9 1 (.slice (some ⟨w.heap.size,0,none⟩) 0 0) 0 []:=World.ownsRow_made (base:=w.heap.size) (e := 9) (size:=1) w #[] 0 (Nat.le_refl _) (Nat.zero_le _) rfl
 have fin:∀{v1:Value} {w1:World},w1.ownsRow w.heap.size 9 1 v1 n (scs l)→∃a1 c1,v1 = .slice a1 n c1∧TxAt w1 a1 l∧(∀x,a1=some x→w.heap.size≤x.block):=fun {v1 w1} o=>by
  obtain⟨a1,c1,e,t,-⟩:=owns_tx hn o
  refine⟨a1,c1,e,t,fun x hx => ?_⟩
  subst e
  rcases o.2 with ⟨e,-⟩|⟨g,cap,cur,e,hg,-⟩
  ·injection e with e1 e2 e3
   rw[e1] at hx
   cases hx
  ·injection e with e1 e2 e3
   rw[e1] at hx
   injection hx with hx
   rw[←hx]
   exact hg
 cases a with
 | none =>
  have h0:l=[]:=by
   cases l with
   | nil=>rfl
   | cons k r=>obtain⟨b,o,e,-⟩:=tx 0 (by simp);cases e
  subst h0
  have hn0:n=0:=hn.symm
  subst hn0
  obtain⟨a1,c1,e,t,z⟩:=fin (show (w.alloc (.cells #[] 9)).ownsRow w.heap.size 9 1 _ 0 (scs []) from o0)
  refine⟨a1,c1,_,?_,t,hb0,z⟩
  rw[←e]
  simp[Builtin.append_,run_underlying Tryz.underlying37, sizeOf,typeInfo,hi,Builtin.lenOf,Builtin.firstCells,storeCells]
 | some ad =>
  obtain⟨v',w',r1,r2,r3,-,-⟩:=run_append_own_at (P:=Tryz.prog) _ w.heap.size 37 37 9 i0 _ 1 16 Tryz.underlying37 hi hz0 hz1 hz2 rfl (by decide) _ 0 [] o0 ad n c (scs l) (by rw[scs_len,hn,Nat.mul_one]) (fun j u hj=>by
   have hj':j < l.length:=by
    have:=(List.getElem?_eq_some_iff.1 hj).1
    simpa[scs] using this
   obtain⟨b,o,e,hc⟩:=(tx.later hb0) j hj'
   obtain rfl:=Option.some.inj e
   rw[Addr.add_mid,hc]
   simp[scs,hj'] at hj
   rw[hj]) (scs_one l) (by unfold maxLen;omega) (by omega) (by simp)
  rw[Nat.zero_add,List.nil_append] at r2
  obtain⟨a1,c1,rfl,t,z⟩:=fin r2
  exact⟨a1,c1,w',r1,t,hb0.grown r3 (by simp) (fun k hk=>(o0.lt k hk).1),z⟩
theorem fiX_le (b:Bxs) (u n:Int):(fiX b u n).2.length≤256:=by
 unfold fiX
 split
 ·exact Nat.zero_le _
 ·rename_i h
  have h1:=List.length_take_le n.toNat (b u.toNat)
  have h2:n.toNat≤256:=by
   have:¬256 < n:=fun c=>h (.inr (.inr c))
   omega
  exact Nat.le_trans h1 h2
set_option maxHeartbeats 1000000 in
theorem bstepY_any (w:World) (hk:Kh w) (B:Nat) (most:Int) (p d n k:Nat) (hn:n≤80) (hk30:k≤30) (s:St) (o:Oe) (k0 k1 k2:Int) (X T:ByteArray) (ia:Option Addr) (im ic:Nat) (pa:Option Addr) (pn pc:Nat) (us:List Bs) (hi:TxAt w ia us) (hin:us.length=im) (him:im*16≤140737488355328) (l:List Int) (hp:IntAt w pa l) (hpn:l.length=pn) (wr:World) (b:BoY w wr B most p d s o) (iv:IvY n most k s o) :
  Calls Tryz.prog 9 #[.pointer (some ⟨B,0,none⟩),.agg #[.int .i64 k0,.int .i64 k1,.int .i64 k2,.string X,.string T,.slice ia im ic,.slice pa pn pc]] wr fun e w'=>e = .returned (.bool true)∧PsY w B most p d n (k+1) w':=by
 obtain⟨m,hm6,-,AM⟩:=xamong_is k0 6 (by decide) (by decide)
 obtain⟨ps,pk,U0,bxW,hUl,ips,ipk⟩:=b.start
 have hU:¬U0 wr.heap.size:=fun c=>Nat.lt_irrefl _ (hUl _ c)
 have nb1:=nb wr (.cells #[.int .i64 k0,.int .i64 k1,.int .i64 k2,.string X,.string T,.slice ia im ic,.slice pa pn pc] 40)
 have bx:=bxW _ nb1
 obtain⟨a0,a1,a2,a3,a4,a5,a6⟩:=actY_cells wr k0 k1 k2 X T ia im ic pa pn pc 40
 have sx:=bx.sx
 have ok:=sx.ok
 have dn:=sx.down
 have i1:=iv.n
 have i2:=iv.h
 have i3:=iv.l
 have hbw:=b.below
 obtain⟨W1,hW1⟩:∃W,wr.alloc (.cells #[.int .i64 k0,.int .i64 k1,.int .i64 k2,.string X,.string T,.slice ia im ic,.slice pa pn pc] 40)=W:=⟨_,rfl⟩
 rw[hW1] at bx sx dn a0 a1 a2 a3 a4 a5 a6 nb1
 have fa:∀{W:World} {sP sR:St},Sx2 w W1 U0 W B most p d sP sR ps pk→FA B wr.heap.size p d ps pk k0 k1 k2 (.string X) (.string T) (.slice ia im ic) (.slice pa pn pc) W:=fun z=>z.fa hU a0 a1 a2 a3 a4 a5 a6
 by_cases h3:m < 3
 ·have IDLE:(ps=none∨s.down=true)→Calls Tryz.prog 9 #[.pointer (some ⟨B,0,none⟩),.agg #[.int .i64 k0,.int .i64 k1,.int .i64 k2,.string X,.string T,.slice ia im ic,.slice pa pn pc]] wr fun e w'=>e = .returned (.bool true)∧PsY w B most p d n (k+1) w':=fun hd =>
   stepY_idle B wr.heap.size p d k0 k1 k2 X T ia im ic pa pn pc ps pk (PsY w B most p d n (k+1)) wr rfl (m:Int) (by omega) s.down (ips.symm.trans ipk) hd AM (by rw[hW1];exact⟨dn,⟨s,o,b.later nb1,iv.up⟩,fa sx⟩)
  match o,ips,ipk,bxW,bx,iv,b,IDLE with
  | none,ips,ipk,bxW,bx,iv,b,IDLE=>exact IDLE (.inl (ips.1 rfl))
  | some (x,E),ips,ipk,bxW,bx,iv,b,IDLE =>
   by_cases hd:s.down=true
   ·exact IDLE (.inr hd)
   ·have hd':s.down=false:=by simpa using hd
    rw[hd'] at dn
    obtain⟨q1,rfl⟩:∃a,ps=some a:=by
     cases ps with
     | none=>exact absurd (ips.2 rfl) (by simp)
     | some a=>exact⟨a,rfl⟩
    obtain⟨q2,rfl⟩:∃a,pk=some a:=by
     cases pk with
     | none=>exact absurd (ipk.2 rfl) (by simp)
     | some a=>exact⟨a,rfl⟩
    obtain⟨hg,uE,gm,m1,m2⟩:=iv.g x E rfl
    obtain⟨lh,ln,-⟩:=b.lo
    have gE:=gm.g
    have mE:manyX (ofE E) 64≤30000:=Nat.le_trans gm.m (by omega)
    have eE:E.length≤30000:=by rw[←ofE_many E uE];exact mE
    clear IDLE
    obtain rfl|rfl|rfl:m=0∨m=1∨m=2:=by omega
    ·refine stepY_put B wr.heap.size p d k0 k1 k2 X T ia im ic pa pn pc q1 q2 (PsY w B most p d n (k+1)) (fun W=>BxY w W1 U0 W B most p d s (some (x,E)) s (some (x,E)) (some q1) (some q2)) wr (fun W=>BxY w W1 U0 W B most p d (puEn most.toNat s x E k1 X.data.toList T.data.toList).1.1.2 (some ((puEn most.toNat s x E k1 X.data.toList T.data.toList).1.2,(puEn most.toNat s x E k1 X.data.toList T.data.toList).2)) s (some (x,E)) (some q1) (some q2)) rfl (puEn most.toNat s x E k1 X.data.toList T.data.toList).1.1.1 AM (fun W z=>BxY.later z (Below.refl _ _).drew) (by rw[hW1];exact⟨dn,bx,fa sx⟩) ?_ ?_
     ·intro W z
      exact (bputPY_any w W1 U0 W B most p d s s x E _ _ _ hk k1 X T gE mE (by omega) z).mono fun _ _ ⟨x1,x2⟩=>⟨x1,fa x2.sx,x2⟩
     ·intro W z
      refine (bputRY_any w W1 U0 W B most p d _ s x E _ _ _ k1 X T eE gE uE hd' (by omega) z).mono fun _ _ ⟨x1,x2⟩=>⟨x1,fa x2.sx,_,_,x2.bo,?_⟩
      obtain⟨r1,r2⟩:=puEn_of most.toNat s x E k1 X.data.toList T.data.toList
      have kp:=(kp_puX (q:=most.toNat) (s:=s) lh ln (ofE E) k1 X.data.toList T.data.toList).1
      have kl:=kp.l
      obtain⟨hq1,hq2⟩:=hq_puX (N:=k+2) (q:=most.toNat) (i2.up7 (Nat.le_succ _)) lh ln (by omega) (by omega) (ofE E) k1 X.data.toList T.data.toList
      have g':=gm_puX (q:=most.toNat) (s:=s) (x:=x) gm k1 X.data.toList T.data.toList
      rw[r1]
      refine⟨kp.n.trans i1,hq1,by omega,fun x' E' e => ?_⟩
      injection e with e
      injection e with e1 e2
      subst e1
      subst e2
      exact⟨Nat.le_trans hq2 (by omega),Us.pu uE _ _ _ _ _ _,by rw[r2];exact g',m1,m2⟩
    ·refine stepY_first B wr.heap.size p d k0 k1 k2 X T ia im ic pa pn pc q1 q2 (PsY w B most p d n (k+1)) (fun W=>Below W1.heap.size W1 W) wr
      (fun a c W=>Below W1.heap.size W1 W∧∃N,W1.heap.size≤N∧W.ownsRow N 58 2 (.slice a (fiX (ofE E) k1 k2).2.length c) (fiX (ofE E) k1 k2).2.length (scx (fiX (ofE E) k1 k2).2))
      (fun a c W=>Below W1.heap.size W1 W∧∃N,W1.heap.size≤N∧W.ownsRow N 58 2 (.slice a (fiX (ofE E) k1 k2).2.length c) (fiX (ofE E) k1 k2).2.length (scx (fiX (ofE E) k1 k2).2))
      (fun a c a2 c2 W=>Below W1.heap.size W1 W∧(∃N,W1.heap.size≤N∧W.ownsRow N 58 2 (.slice a (fiX (ofE E) k1 k2).2.length c) (fiX (ofE E) k1 k2).2.length (scx (fiX (ofE E) k1 k2).2))∧SlAt W a2 (fiX (ofE E) k1 k2).2)
      (fiX (ofE E) k1 k2).2.length rfl (fiX (ofE E) k1 k2).1 AM ?_ ?_ ?_ ?_ ?_ ?_ ?_
     ·exact fun W z=>z.drew
     ·exact fun a c W ⟨z,N,hN,ho⟩=>⟨z.drew,N,hN,owns_laterX ho (Below.refl _ _).drew⟩
     ·rw[hW1]
      exact⟨dn,Below.refl _ _,fa sx⟩
     ·intro W z
      refine (bfirstPY_any w W1 U0 W B most p d s s x E _ _ _ k1 k2 gE mE (bx.later z)).mono ?_
      rintro e w1 ⟨y,x1,x2,x3⟩
      obtain⟨a,c,rfl,-⟩:=owns_sl rfl x2
      exact⟨a,c,x1,fa (bx.later (chain z x3)).sx,chain z x3,_,z.size,x2⟩
     ·intro W a c ⟨z,N,hN,ho⟩
      refine (bfirstRY_any w W1 U0 W B most p d s s x E _ _ _ k1 k2 (Nat.le_trans eE (by omega)) (bx.later z)).mono ?_
      rintro e w1 ⟨a2,c2,x1,x2,x3⟩
      exact⟨a2,c2,x1,fa (bx.later (chain z x3)).sx,chain z x3,⟨N,hN,owns_laterX ho x3⟩,x2⟩
     ·intro W a c a2 c2 ⟨z,⟨N,hN,ho⟩,h2⟩
      obtain⟨a',c',e1,sl,-⟩:=owns_sl rfl ho
      injection e1 with e1 e2 e3
      subst e1
      refine (xsameSlots_yes a (fiX (ofE E) k1 k2).2.length c a2 c2 (fiX (ofE E) k1 k2).2 rfl (by have:=fiX_le (ofE E) k1 k2;omega) W sl.at_ h2).mono ?_
      rintro e w1 ⟨x1,x2⟩
      exact⟨x1,chain z x2,N,hN,owns_laterX ho x2⟩
     ·intro W a c ⟨z,N,hN,ho⟩
      refine (xspoil_any a (fiX (ofE E) k1 k2).2.length c N (fiX (ofE E) k1 k2).2 W ho).mono ?_
      rintro e w1 ⟨x1,x2⟩
      have hz:Below W1.heap.size W1 w1:=z.trans (x2.below (fun g hg=>by
       rcases ho.2 with ⟨e,-⟩|⟨g',cap,cur,e,hb,-⟩
       ·injection e with e1 e2 e3
        rw[e1] at hg
        cases hg
       ·injection e with e1 e2 e3
        rw[e1] at hg
        injection hg with hg
        have:g'=g:=hg
        omega) z.size)
      exact⟨x1,_,_,(bx.later hz).bo,iv.up⟩
    ·have hW1s:wr.heap.size≤W1.heap.size:=nb1.size
     obtain⟨oa,oc,W2,AP,tx2,b2,new2⟩:=gcopy_tx W1 ia im ic us hin him (hi.later (chain hbw nb1))
     have nb2:Below wr.heap.size wr W2:=chain nb1 b2
     have bx2:=bxW _ nb2
     have fa2:∀{W:World} {sP sR:St},Sx2 w W2 U0 W B most p d sP sR (some q1) (some q2)→FA B wr.heap.size p d (some q1) (some q2) k0 k1 k2 (.string X) (.string T) (.slice ia im ic) (.slice pa pn pc) W:=fun z=>z.fa hU (cell_later b2 a0) (cell_later b2 a1) (cell_later b2 a2) (cell_later b2 a3) (cell_later b2 a4) (cell_later b2 a5) (cell_later b2 a6)
     have t1:∀{W:World},Bf U0 W2 W→TxAt W oa us:=fun {W} f i hi=>by
      obtain⟨y,o,e,cc⟩:=tx2 i hi
      exact⟨y,o,e,f.cell cc (fun c=>by
       have h1:=hUl _ c
       have h2:=new2 _ e
       exact absurd (Nat.lt_of_lt_of_le h1 hW1s) (Nat.not_lt.2 h2))⟩
     have imb:im≤10000000000000:=by omega
     refine stepY_ack B wr.heap.size p d k0 k1 k2 X T ia im ic pa pn pc q1 q2 (PsY w B most p d n (k+1)) (fun W=>BxY w W2 U0 W B most p d s (some (x,E)) s (some (x,E)) (some q1) (some q2)) wr (fun W=>BxY w W2 U0 W B most p d (akEn s x E k1 us).2.1.1.2 (some ((akEn s x E k1 us).2.1.2,(akEn s x E k1 us).2.2)) s (some (x,E)) (some q1) (some q2)) (fun W=>BxY w W2 U0 W B most p d (akEn s x E k1 us).2.1.1.2 (some ((akEn s x E k1 us).2.1.2,(akEn s x E k1 us).2.2)) (akEn s x E k1 us).2.1.1.2 (some ((akEn s x E k1 us).2.1.2,(akEn s x E k1 us).2.2)) (some q1) (some q2)) rfl ((akEn s x E k1 us).1:Int) (akEn s x E k1 us).2.1.1.1 oa oc W1 W2 hW1 AM AP dn (fa sx) (cell_later (nb W1 _) a5) (bx2.later (Below.refl _ _).drew) (fa2 bx2.sx).drew (fun W z=>BxY.later z (Below.refl _ _).drew) ?_ ?_ ?_
     ·intro W z
      exact (backPY_any w W2 U0 W B most p d s s x E _ _ _ hk k1 oa im oc us hin imb (by omega) gE mE (by omega) (t1 z.old) z).mono fun _ _ ⟨x1,x2⟩=>⟨x1,fa2 x2.sx,x2⟩
     ·intro W z
      exact (backRY_any w W2 U0 W B most p d _ s x E _ _ _ k1 ia im ic us hin imb eE gE uE hd' (by omega) (hi.later z.sx.below) z).mono fun _ _ ⟨x1,x2⟩=>⟨x1,fa2 x2.sx,x2⟩
     ·intro W z
      refine (bsame_any oa ia im oc ic us hin imb W (t1 z.old) (hi.later z.sx.below)).mono fun _ _ ⟨x1,x2⟩=>⟨x1,_,_,(z.later x2).bo,?_⟩
      obtain⟨-,r1,r2⟩:=akEn_of s x E k1 us
      have kp:=(kp_akX (s:=s) lh ln (ofE E) k1 us).1
      have kl:=kp.l
      obtain⟨hq1,hq2⟩:=hq_akX (N:=k+2) (i2.up7 (Nat.le_succ _)) lh ln (by omega) (by omega) (ofE E) k1 us
      have g':=gm_akX (s:=s) (x:=x) gm k1 us
      rw[r1]
      refine⟨kp.n.trans i1,hq1,len_next kl i3 (by omega),fun x' E' e => ?_⟩
      injection e with e
      injection e with e1 e2
      subst e1
      subst e2
      exact⟨Nat.le_trans hq2 (by omega),Us.ak uE _ _ _ _,by rw[r2];exact g'.mono (Nat.le_succ _),m1,m2⟩
 ·obtain hm:m=3∨m=4∨m=5:=by omega
  refine stepY_outer B wr.heap.size p d k0 k1 k2 X T ia im ic pa pn pc ps pk (PsY w B most p d n (k+1)) (fun W=>BoY w W B most p d s o) wr rfl (m:Int) (by omega) AM (by rw[hW1];exact⟨b.later nb1,fa sx⟩) ?_
  intro W z
  exact bouterY_any w hk B most p d n k hn hk30 s o k0 k1 k2 X T ia im ic pa pn pc l hp hpn m hm AM W z iv
end Go.Proofs.YtjpaodepnacimaaGreatDoor
namespace Go.Proofs.YtjpaodepnacimaaGreatDoor
open Go.RowKit Go.Proofs.Fd Go.Proofs.Dk
set_option maxRecDepth 20000
theorem infoSz:(Tryz.prog.info? 9).map (fun i=>(i.zero,i.size,i.bytes))=some (some (.string ⟨#[]⟩),1,16):=by kernel_rfl
abbrev OwnsSz (w:World) (v:Value) (k:Nat):Prop:=w.ownsRow 0 9 1 v k (List.replicate k (sv (zs 0)))
theorem app_z (W:World) (v:Value) (k:Nat) (h:OwnsSz W v k) (hk:k≤1024) :
  ∃va vc w',(Builtin.append_ #[37, 37] 37 #[v,.slice (some ⟨W.heap.size,0,none⟩) 1 1]).run Tryz.prog (W.alloc (.cells #[sv (zs 0)] 9)) = .ok (.slice va (k+1) vc) w'∧Hid (OwnsSz w' (.slice va (k+1) vc) (k+1)∧Bf (fun g=>v.ownBlock=some g) W w'∧∀g,(Value.slice va (k+1) vc).ownBlock=some g→v.ownBlock=some g∨W.heap.size≤g):=by
 obtain⟨i0,hi,hz0,hz1,hz2⟩:=info_parts infoSz
 have b0:Below W.heap.size W (W.alloc (.cells #[sv (zs 0)] 9)):=(Below.refl _ _).alloc (Nat.le_refl _) _
 have h1:OwnsSz (W.alloc (.cells #[sv (zs 0)] 9)) v k:=ownsRow_same h (fun g e=>b0.block g (h.lt g e).2)
 obtain⟨v',w',r1,r2,r3,-,r5⟩:=run_append_own_at (P:=Tryz.prog) _ 0 37 37 9 i0 _ 1 16 Tryz.underlying37 hi hz0 hz1 hz2 rfl (by decide) v k _ h1 ⟨W.heap.size,0,none⟩ 1 1 [sv (zs 0)] rfl (fun j u hu=>by
   rw[Addr.add_mid,Nat.zero_add,World.cell?_alloc_new]
   simpa using hu) (fun u hu=>by rw[List.mem_singleton] at hu;subst hu;rfl) (by unfold maxLen;omega) (by omega) (Nat.zero_le _)
 have r2':OwnsSz w' v' (k+1):=by
  unfold OwnsSz
  rw[List.replicate_succ']
  exact r2
 obtain⟨va,vc,rfl⟩:∃va vc,v' = .slice va (k+1) vc:=by
  rcases r2'.2 with ⟨rfl,h2⟩|⟨g,cap,cur,rfl,-⟩
  ·omega
  ·exact⟨_,_,rfl⟩
 refine⟨va,vc,w',r1,r2',⟨r3.os.trans b0.os,r3.tape.trans b0.tape,r3.output.trans b0.output,Nat.le_trans b0.size r3.size,fun g hg hF=>(r3.block g (Nat.lt_of_lt_of_le hg b0.size) (fun e=>hF e.symm)).trans (b0.block g hg)⟩,fun g e => ?_⟩
 rcases r5 with c|c
 ·exact .inl (c.symm.trans e)
 ·rw[c] at e
  injection e with e
  have:=b0.size
  exact .inr (by omega)
structure Mk (w wr:World) (d n k:Nat) (v:Value):Prop where
 c0:wr.cell? ⟨d,0,none⟩=some v
 c1:wr.cell? ⟨d,1,none⟩=some (.slice none 0 0)
 c2:wr.cell? ⟨d,2,none⟩=some (.int .i64 0)
 c3:wr.cell? ⟨d,3,none⟩=some (.bool false)
 c4:wr.cell? ⟨d,4,none⟩=some (.int .i64 (n:Int))
 fr:∀o,wr.frozen? ⟨d,o,none⟩=false
 row:OwnsSz wr v k
 nd:w.heap.size≤d
 vd:v.ownBlock≠some d
 nv:∀g,v.ownBlock=some g→w.heap.size≤g
 below:Below w.heap.size w wr
theorem Mk.later {w wr w':World} {d n k:Nat} {v:Value} (h:Mk w wr d n k v) (hb:Below wr.heap.size wr w'):Mk w w' d n k v:=by
 have ld:d < wr.heap.size:=World.block_lt_of_cell? _ _ h.c0
 exact⟨cell_later hb h.c0,cell_later hb h.c1,cell_later hb h.c2,cell_later hb h.c3,cell_later hb h.c4,fun o=>(frozen_kept hb ld).trans (h.fr o),ownsRow_same h.row (fun g e=>hb.block g (h.row.lt g e).2),h.nd,h.vd,h.nv,chain h.below hb⟩
theorem Mk.next {w wr w':World} {d n k:Nat} {v u:Value} (h:Mk w wr d n k v) (ho:OwnsSz w' u (k+1)) (hb:Bf (fun g=>v.ownBlock=some g) wr w') (hu:∀g,u.ownBlock=some g→v.ownBlock=some g∨wr.heap.size≤g):w'.cell? ⟨d,0,none⟩=some v∧w'.frozen? ⟨d,0,none⟩=false∧Mk w (w'.setCell ⟨d,0,none⟩ u) d n (k+1) u:=by
 have ld:d < wr.heap.size:=World.block_lt_of_cell? _ _ h.c0
 have hd:w'.heap[d]?=wr.heap[d]?:=hb.block d ld (fun e=>h.vd e)
 have cp:∀o,w'.cell? ⟨d,o,none⟩=wr.cell? ⟨d,o,none⟩:=fun o=>World.cell?_of_block (a:=⟨d,o,none⟩) hd
 have fp:∀o,w'.frozen? ⟨d,o,none⟩=wr.frozen? ⟨d,o,none⟩:=fun o=>World.frozen?_of_block (a:=⟨d,o,none⟩) hd
 have ud:u.ownBlock≠some d:=fun e=>by
  rcases hu d e with c|c
  ·exact h.vd c
  ·omega
 obtain⟨s0,co,bo,fo⟩:=set_lemmas w' d 0 u _ ((cp 0).trans h.c0)
 refine⟨(cp 0).trans h.c0,(fp 0).trans (h.fr 0),s0,co 1 _ (by decide) ((cp 1).trans h.c1),co 2 _ (by decide) ((cp 2).trans h.c2),co 3 _ (by decide) ((cp 3).trans h.c3),co 4 _ (by decide) ((cp 4).trans h.c4),fun o=>(fo o).trans ((fp o).trans (h.fr o)),ownsRow_same ho (fun g e=>bo g (fun c=>ud (by rw[e,c]))),h.nd,ud,fun g e => ?_,?_⟩
 ·rcases hu g e with c|c
  ·exact h.nv g c
  ·exact Nat.le_trans h.below.size c
 ·exact (h.below.trans (hb.below h.nv h.below.size)).setCell (p:=⟨d,0,none⟩) h.nd _
theorem Mk.done {w wr:World} {d n:Nat} {v:Value} (h:Mk w wr d n n v) (h1:1≤n) (h2:n≤1024):∃G,DAt wr d G (St.init n)∧∀g,G g→w.heap.size≤g:=by
 obtain⟨sg,sc,rfl⟩:∃sg sc,v = .slice (some ⟨sg,0,none⟩) n sc:=by
  rcases h.row.2 with ⟨rfl,c⟩|⟨g,cap,cur,rfl,-⟩
  ·omega
  ·exact⟨g,cap,rfl⟩
 have hs:(Value.slice (some ⟨sg,0,none⟩) n sc).ownBlock=some sg:=rfl
 refine⟨DFoot d sg (.slice none 0 0),⟨Ok.init h1 h2,sg,sc,.slice none 0 0,rfl,h.c0,h.c1,h.c2,h.c3,h.c4,h.fr,⟨fun k hk => ?_,fun k=>h.row.frozenAt k⟩,World.ownsRow_nil _ _ _ _,fun e=>h.vd (by rw[hs,e]),nofun,nofun,h1⟩,fun g hg => ?_⟩
 ·have hk':k < n:=hk
  rw[h.row.cellAt k (by omega),List.getElem?_replicate,if_pos hk']
  rfl
 ·rcases hg with rfl|rfl|e
  ·exact h.nd
  ·exact h.nv _ hs
  ·cases e
theorem rnew_no (n:Int) (h:n < 1∨1024 < n) (w:World) :
  Calls Tryz.prog 6 #[.int .i64 n] w fun e w'=>e = .returned (.tuple #[.pointer none,.int .i64 1])∧w'=w:=by
 rcases h with h|h
 ·go_enter Tryz.func6, Tryz.ntmps6
  go_wp2
  go_ret2
  exact⟨rfl,rfl⟩
 ·have h1:¬n < 1:=by omega
  go_enter Tryz.func6, Tryz.ntmps6
  go_wp2
  go_ret2
  exact⟨rfl,rfl⟩
def oprn0:Oper:={ dst:=some 20,op:=Go.Op.move (Go.Operand.tmp 4),type := 27, pos := "ref.go:38", after:=#[],guard:=none }
def oprn1:Oper:={ dst:=some 21,op:=Go.Op.move (Go.Operand.tmp 4),type := 27, pos := "ref.go:38", after:=#[],guard:=none }
def oprn2:Oper:={ dst:=some 22,op:=Go.Op.nilCheck (Go.Operand.tmp 21),type:=0,pos := "ref.go:38", after:=#[{ on:=1,ground:=Go.Ground.data }],guard:=none }
def oprn3:Oper:={ dst:=some 23,op:=Go.Op.fieldAddr 43 (Go.Operand.tmp 22) 0,type:=0,pos := "ref.go:38", after:=#[{ on:=2,ground:=Go.Ground.data }],guard:=none }
def oprn4:Oper:={ dst:=some 24,op:=Go.Op.load 37 (Go.Operand.tmp 23),type := 37, pos := "ref.go:38", after:=#[{ on:=3,ground:=Go.Ground.data }],guard:=none }
def oprn5:Oper:={ dst:=some 25,op:=Go.Op.makeSlice 70 (Go.Operand.const (Go.Value.int Go.IntKind.i64 64)) (Go.Operand.const (Go.Value.int Go.IntKind.i64 64)),type := 70, pos := "ref.go:38", after:=#[],guard:=none }
def oprn6:Oper:={ dst:=some 26,op:=Go.Op.convert 70 9 (Go.Operand.tmp 25),type := 9, pos := "ref.go:38", after:=#[{ on:=5,ground:=Go.Ground.data }],guard:=none }
def oprn7:Oper:={ dst:=some 27,op:=Go.Op.buildSlice 37 1 #[(0,Go.Operand.tmp 26)],type := 37, pos := "ref.go:38", after:=#[{ on:=6,ground:=Go.Ground.data }],guard:=none }
def oprn8:Oper:={ dst:=some 28,op:=Go.Op.call { callee:=Go.Callee.builtin Go.Builtin.append,args:=#[Go.Operand.tmp 24,Go.Operand.tmp 27],argTypes:=#[37, 37] },type := 37, pos := "ref.go:38", after:=#[{ on:=4,ground:=Go.Ground.data },{ on:=7,ground:=Go.Ground.data }],guard:=none }
def oprn9:Oper:={ dst:=some 29,op:=Go.Op.nilCheck (Go.Operand.tmp 20),type:=0,pos := "ref.go:38", after:=#[{ on:=0,ground:=Go.Ground.data },{ on:=0,ground:=Go.Ground.phase },{ on:=1,ground:=Go.Ground.phase },{ on:=2,ground:=Go.Ground.phase },{ on:=3,ground:=Go.Ground.phase },{ on:=4,ground:=Go.Ground.phase },{ on:=5,ground:=Go.Ground.phase },{ on:=6,ground:=Go.Ground.phase },{ on:=7,ground:=Go.Ground.phase },{ on:=8,ground:=Go.Ground.phase }],guard:=none }
def oprn10:Oper:={ dst:=some 30,op:=Go.Op.fieldAddr 43 (Go.Operand.tmp 29) 0,type:=0,pos := "ref.go:38", after:=#[{ on:=9,ground:=Go.Ground.data },{ on:=0,ground:=Go.Ground.phase },{ on:=1,ground:=Go.Ground.phase },{ on:=2,ground:=Go.Ground.phase },{ on:=3,ground:=Go.Ground.phase },{ on:=4,ground:=Go.Ground.phase },{ on:=5,ground:=Go.Ground.phase },{ on:=6,ground:=Go.Ground.phase },{ on:=7,ground:=Go.Ground.phase },{ on:=8,ground:=Go.Ground.phase }],guard:=none }
def oprn11:Oper:={ dst:=none,op:=Go.Op.store 37 (Go.Operand.tmp 30) (Go.Operand.tmp 28),type:=0,pos := "ref.go:38", after:=#[{ on:=10,ground:=Go.Ground.data },{ on:=8,ground:=Go.Ground.data },{ on:=8,ground:=Go.Ground.chain },{ on:=0,ground:=Go.Ground.phase },{ on:=1,ground:=Go.Ground.phase },{ on:=2,ground:=Go.Ground.phase },{ on:=3,ground:=Go.Ground.phase },{ on:=4,ground:=Go.Ground.phase },{ on:=5,ground:=Go.Ground.phase },{ on:=6,ground:=Go.Ground.phase },{ on:=7,ground:=Go.Ground.phase },{ on:=8,ground:=Go.Ground.phase }],guard:=none }
set_option maxHeartbeats 2000000 in
theorem rnew_any (n:Nat) (h1:1≤n) (h2:n≤1024) (w:World) :
  Calls Tryz.prog 6 #[.int .i64 (n:Int)] w fun e w'=>∃d G,e = .returned (.tuple #[.pointer (some ⟨d,0,none⟩),.int .i64 0])∧DAt w' d G (St.init n)∧(∀g,G g→w.heap.size≤g)∧Below w.heap.size w w':=by
 have g1:¬(n:Int) < 1:=by omega
 have g2:¬(1024:Int) < (n:Int):=by omega
 obtain⟨M,MK',hM'⟩:=make_64
 have MK:Hid (∀w:World,_):=MK'
 have HM:Hid (∀w:World,_):=hM'
 clear MK' hM'
 go_enter Tryz.func6, Tryz.ntmps6
 go_wp2_with fail
 have I0:Hid (Mk w (w.alloc (.cells #[.slice none 0 0,.slice none 0 0,.int .i64 0,.bool false,.int .i64 (n:Int)] 43)) w.heap.size n 0 (.slice none 0 0)) :=
  ⟨by simp[go_sem],by simp[go_sem],by simp[go_sem],by simp[go_sem],by simp[go_sem],fun o=>by simp[go_sem],World.ownsRow_nil _ _ _ _,Nat.le_refl _,nofun,nofun,(Below.refl _ _).alloc (Nat.le_refl _) _⟩
 obtain⟨d,hd⟩:∃d,w.heap.size=d:=⟨_,rfl⟩
 obtain⟨w1,hw1⟩:∃w1,w.alloc (.cells #[.slice none 0 0,.slice none 0 0,.int .i64 0,.bool false,.int .i64 (n:Int)] 43)=w1:=⟨_,rfl⟩
 have HD:Hid (w.heap.size=d):=hd
 rw[hw1] at I0 ⊢
 rw[hd] at I0 ⊢
 clear hw1 hd g1 g2
 go_loopw [5] (fun i wr=>∃(k:Nat) (v:Value),k≤n∧i = .int .i64 (k:Int)∧Hid (Mk w wr d n k v)) (fun i wr=>n - (intOf i).toNat)
 case atStart=>exact⟨0,_,Nat.zero_le _,rfl,I0.out⟩
 case round =>
  obtain⟨k,v,hk,rfl,I⟩:=hrel
  clear I0
  by_cases hlt:k < n
  ·have gk:(k:Int) < (n:Int):=by omega
   have I2:Hid (Mk w wr.drew d n k v):=I.out.later (Below.refl _ _).drew
   clear I
   go_upto_region 7 with fail
   obtain⟨Z,hZ⟩:∃Z,wr.drew=Z:=⟨_,rfl⟩
   rw[hZ] at I2
   have I3:Mk w (Z.alloc (.cells M 5)) d n k v:=I2.out.later ((Below.refl _ _).alloc (Nat.le_refl _) _)
   have S1:=HM.out Z
   have CV:Hid _:=text_at (S1.at_ 0 (by decide)) 64
   have C4:Hid (Z.cell? ⟨d,0,none⟩=some v):=I2.out.c0
   obtain⟨va,vc,w',hr',AO⟩:=app_z (Z.alloc (.cells M 5)) v k I3.row (by omega)
   obtain⟨n1,n2,n3⟩:=I3.next AO.out.1 AO.out.2.1 AO.out.2.2
   have SC:Hid (w'.cell? ⟨d,0,none⟩=some v∧w'.frozen? ⟨d,0,none⟩=false):=⟨n1,n2⟩
   have RA:Hid (Mk w (w'.setCell ⟨d,0,none⟩ (.slice va (k+1) vc)) d n (k+1) (.slice va (k+1) vc)):=n3
   have es:(Z.alloc (.cells M 5)).heap.size=Z.heap.size+1:=by simp
   rw[es] at hr'
   have HR:Hid _:=hr'
   have E64:Hid ((convert 70 9 (.slice (some ⟨Z.heap.size,0,none⟩) 64 64)).run Tryz.prog (Z.alloc (.cells M 5)) = .ok (sv (zs 0)) (Z.alloc (.cells M 5))):=by
    have:=CV.out
    rw[List.length_replicate,Nat.zero_mul] at this
    exact this
   clear I2 I3 S1 AO n1 n2 n3 hr' CV es
   refine wp_region_noPanic ?_
   refine wp_region_held_drew (S:=fun _=>True) (by kernel_rfl) (trivial) (fun hHeld => ?_)
   rw[hZ]
   clear hZ
   refine wT 0 oprn0 ?_ ?_ ?_;rotate_left
   ·intro w' hSw;clear hSw;unfold oprn0;first|(go_simp;done)|(go_simp;with_reducible rfl)
   simp only[oprn0,Act.put,wA,wB,wC]
   refine wT 1 oprn1 ?_ ?_ ?_;rotate_left
   ·intro w' hSw;clear hSw;unfold oprn1;first|(go_simp;done)|(go_simp;with_reducible rfl)
   simp only[oprn1,Act.put,wA,wB,wC]
   refine wT 2 oprn2 ?_ ?_ ?_;rotate_left
   ·intro w' hSw;clear hSw;unfold oprn2;first|(go_simp;done)|(go_simp;with_reducible rfl)
   simp only[oprn2,Act.put,wA,wB,wC]
   refine wT 3 oprn3 ?_ ?_ ?_;rotate_left
   ·intro w' hSw;clear hSw;unfold oprn3;first|(go_simp;done)|(go_simp;with_reducible rfl)
   simp only[oprn3,Act.put,wA,wB,wC]
   refine wpAnyH_ready (rs:=[4,5]) (by kernel_rfl) (by simp) ?_
   refine AllReadyH.cons (o:=oprn4) rfl (fun KK hKK => ?_) (AllReadyH.cons (o:=oprn5) rfl (fun KK hKK => ?_) AllReadyH.nil)
   ·have lc:=C4.out
    unfold oprn4
    go_simp
    refine hKK.out _ _ trivial (fun hHeld4 => ?_)
    clear hKK KK lc
    refine wpAnyH_ready (rs:=[5]) (by kernel_rfl) (by simp) ?_
    refine AllReadyH.cons (o:=oprn5) rfl (fun KK hKK => ?_) AllReadyH.nil
    have lc:=MK.out Z
    unfold oprn5
    go_simp
    refine hKK.out _ _ trivial (fun hHeld5 => ?_)
    clear hKK KK lc
    refine wpAnyH_ready (rs:=[6]) (by kernel_rfl) (by simp) ?_
    refine AllReadyH.cons (o:=oprn6) rfl (fun KK hKK => ?_) AllReadyH.nil
    have lc:=E64.out
    unfold oprn6
    go_simp
    refine hKK.out _ _ trivial (fun hHeld6 => ?_)
    clear hKK KK lc
    refine wpAnyH_ready (rs:=[7]) (by kernel_rfl) (by simp) ?_
    refine AllReadyH.cons (o:=oprn7) rfl (fun KK hKK => ?_) AllReadyH.nil
    unfold oprn7
    go_simp
    refine hKK.out _ _ trivial (fun hHeld7 => ?_)
    clear hKK KK
    refine wpAnyH_ready (rs:=[8]) (by kernel_rfl) (by simp) ?_
    refine AllReadyH.cons (o:=oprn8) rfl (fun KK hKK => ?_) AllReadyH.nil
    have hr:=HR.out
    rw[if_pos (by kernel_rfl)]
    refine Go.Lib.wp_append_run _ _ _ _ _ rfl _ _ rfl rfl _ _ hr ?_
    refine hKK.out _ _ trivial (fun hHeldA => ?_)
    clear hKK KK hr
    simp only[oprn8,Act.put,wA,wB,wC]
    refine wT 9 oprn9 ?_ ?_ ?_;rotate_left
    ·intro w' hSw;clear hSw;unfold oprn9;first|(go_simp;done)|(go_simp;with_reducible rfl)
    simp only[oprn9,Act.put,wA,wB,wC]
    refine wT 10 oprn10 ?_ ?_ ?_;rotate_left
    ·intro w' hSw;clear hSw;unfold oprn10;first|(go_simp;done)|(go_simp;with_reducible rfl)
    simp only[oprn10,Act.put,wA,wB,wC]
    refine wpAnyH_ready (rs:=[11]) (by kernel_rfl) (by simp) ?_
    refine AllReadyH.cons (o:=oprn11) rfl (fun KK hKK => ?_) AllReadyH.nil
    have sc1:=SC.out.1
    have sf1:=SC.out.2
    unfold oprn11
    go_simp
    refine hKK.out _ _ trivial (fun hHeldS => ?_)
    clear hKK KK sc1 sf1
    refine wpAnyH_done (by kernel_rfl) ?_ _
    refine NoPanic.normal ?_
    go_wp2
    go_roundw
    case rel=>exact⟨k+1,_,by omega,by go_num,RA.out⟩
    case measure=>simp[intOf];omega
   ·have lc:=MK.out Z
    unfold oprn5
    go_simp
    refine hKK.out _ _ trivial (fun hHeld5 => ?_)
    clear hKK KK lc
    refine wpAnyH_ready (rs:=[4,6]) (by kernel_rfl) (by simp) ?_
    refine AllReadyH.cons (o:=oprn4) rfl (fun KK hKK => ?_) (AllReadyH.cons (o:=oprn6) rfl (fun KK hKK => ?_) AllReadyH.nil)
    ·have lc:=(cell_alloc (o:=(.cells M 5)) C4.out)
     unfold oprn4
     go_simp
     refine hKK.out _ _ trivial (fun hHeld4 => ?_)
     clear hKK KK lc
     refine wpAnyH_ready (rs:=[6]) (by kernel_rfl) (by simp) ?_
     refine AllReadyH.cons (o:=oprn6) rfl (fun KK hKK => ?_) AllReadyH.nil
     have lc:=E64.out
     unfold oprn6
     go_simp
     refine hKK.out _ _ trivial (fun hHeld6 => ?_)
     clear hKK KK lc
     refine wpAnyH_ready (rs:=[7]) (by kernel_rfl) (by simp) ?_
     refine AllReadyH.cons (o:=oprn7) rfl (fun KK hKK => ?_) AllReadyH.nil
     unfold oprn7
     go_simp
     refine hKK.out _ _ trivial (fun hHeld7 => ?_)
     clear hKK KK
     refine wpAnyH_ready (rs:=[8]) (by kernel_rfl) (by simp) ?_
     refine AllReadyH.cons (o:=oprn8) rfl (fun KK hKK => ?_) AllReadyH.nil
     have hr:=HR.out
     rw[if_pos (by kernel_rfl)]
     refine Go.Lib.wp_append_run _ _ _ _ _ rfl _ _ rfl rfl _ _ hr ?_
     refine hKK.out _ _ trivial (fun hHeldA => ?_)
     clear hKK KK hr
     simp only[oprn8,Act.put,wA,wB,wC]
     refine wT 9 oprn9 ?_ ?_ ?_;rotate_left
     ·intro w' hSw;clear hSw;unfold oprn9;first|(go_simp;done)|(go_simp;with_reducible rfl)
     simp only[oprn9,Act.put,wA,wB,wC]
     refine wT 10 oprn10 ?_ ?_ ?_;rotate_left
     ·intro w' hSw;clear hSw;unfold oprn10;first|(go_simp;done)|(go_simp;with_reducible rfl)
     simp only[oprn10,Act.put,wA,wB,wC]
     refine wpAnyH_ready (rs:=[11]) (by kernel_rfl) (by simp) ?_
     refine AllReadyH.cons (o:=oprn11) rfl (fun KK hKK => ?_) AllReadyH.nil
     have sc1:=SC.out.1
     have sf1:=SC.out.2
     unfold oprn11
     go_simp
     refine hKK.out _ _ trivial (fun hHeldS => ?_)
     clear hKK KK sc1 sf1
     refine wpAnyH_done (by kernel_rfl) ?_ _
     refine NoPanic.normal ?_
     go_wp2
     go_roundw
     case rel=>exact⟨k+1,_,by omega,by go_num,RA.out⟩
     case measure=>simp[intOf];omega
    ·have lc:=E64.out
     unfold oprn6
     go_simp
     refine hKK.out _ _ trivial (fun hHeld6 => ?_)
     clear hKK KK lc
     refine wpAnyH_ready (rs:=[4,7]) (by kernel_rfl) (by simp) ?_
     refine AllReadyH.cons (o:=oprn4) rfl (fun KK hKK => ?_) (AllReadyH.cons (o:=oprn7) rfl (fun KK hKK => ?_) AllReadyH.nil)
     ·have lc:=(cell_alloc (o:=(.cells M 5)) C4.out)
      unfold oprn4
      go_simp
      refine hKK.out _ _ trivial (fun hHeld4 => ?_)
      clear hKK KK lc
      refine wpAnyH_ready (rs:=[7]) (by kernel_rfl) (by simp) ?_
      refine AllReadyH.cons (o:=oprn7) rfl (fun KK hKK => ?_) AllReadyH.nil
      unfold oprn7
      go_simp
      refine hKK.out _ _ trivial (fun hHeld7 => ?_)
      clear hKK KK
      refine wpAnyH_ready (rs:=[8]) (by kernel_rfl) (by simp) ?_
      refine AllReadyH.cons (o:=oprn8) rfl (fun KK hKK => ?_) AllReadyH.nil
      have hr:=HR.out
      rw[if_pos (by kernel_rfl)]
      refine Go.Lib.wp_append_run _ _ _ _ _ rfl _ _ rfl rfl _ _ hr ?_
      refine hKK.out _ _ trivial (fun hHeldA => ?_)
      clear hKK KK hr
      simp only[oprn8,Act.put,wA,wB,wC]
      refine wT 9 oprn9 ?_ ?_ ?_;rotate_left
      ·intro w' hSw;clear hSw;unfold oprn9;first|(go_simp;done)|(go_simp;with_reducible rfl)
      simp only[oprn9,Act.put,wA,wB,wC]
      refine wT 10 oprn10 ?_ ?_ ?_;rotate_left
      ·intro w' hSw;clear hSw;unfold oprn10;first|(go_simp;done)|(go_simp;with_reducible rfl)
      simp only[oprn10,Act.put,wA,wB,wC]
      refine wpAnyH_ready (rs:=[11]) (by kernel_rfl) (by simp) ?_
      refine AllReadyH.cons (o:=oprn11) rfl (fun KK hKK => ?_) AllReadyH.nil
      have sc1:=SC.out.1
      have sf1:=SC.out.2
      unfold oprn11
      go_simp
      refine hKK.out _ _ trivial (fun hHeldS => ?_)
      clear hKK KK sc1 sf1
      refine wpAnyH_done (by kernel_rfl) ?_ _
      refine NoPanic.normal ?_
      go_wp2
      go_roundw
      case rel=>exact⟨k+1,_,by omega,by go_num,RA.out⟩
      case measure=>simp[intOf];omega
     ·unfold oprn7
      go_simp
      refine hKK.out _ _ trivial (fun hHeld7 => ?_)
      clear hKK KK
      refine wpAnyH_ready (rs:=[4]) (by kernel_rfl) (by simp) ?_
      refine AllReadyH.cons (o:=oprn4) rfl (fun KK hKK => ?_) AllReadyH.nil
      have lc:=(cell_alloc (o:=(.cells #[sv (zs 0)] 9)) (cell_alloc (o:=(.cells M 5)) C4.out))
      unfold oprn4
      go_simp
      refine hKK.out _ _ trivial (fun hHeld4 => ?_)
      clear hKK KK lc
      refine wpAnyH_ready (rs:=[8]) (by kernel_rfl) (by simp) ?_
      refine AllReadyH.cons (o:=oprn8) rfl (fun KK hKK => ?_) AllReadyH.nil
      have hr:=HR.out
      rw[if_pos (by kernel_rfl)]
      refine Go.Lib.wp_append_run _ _ _ _ _ rfl _ _ rfl rfl _ _ hr ?_
      refine hKK.out _ _ trivial (fun hHeldA => ?_)
      clear hKK KK hr
      simp only[oprn8,Act.put,wA,wB,wC]
      refine wT 9 oprn9 ?_ ?_ ?_;rotate_left
      ·intro w' hSw;clear hSw;unfold oprn9;first|(go_simp;done)|(go_simp;with_reducible rfl)
      simp only[oprn9,Act.put,wA,wB,wC]
      refine wT 10 oprn10 ?_ ?_ ?_;rotate_left
      ·intro w' hSw;clear hSw;unfold oprn10;first|(go_simp;done)|(go_simp;with_reducible rfl)
      simp only[oprn10,Act.put,wA,wB,wC]
      refine wpAnyH_ready (rs:=[11]) (by kernel_rfl) (by simp) ?_
      refine AllReadyH.cons (o:=oprn11) rfl (fun KK hKK => ?_) AllReadyH.nil
      have sc1:=SC.out.1
      have sf1:=SC.out.2
      unfold oprn11
      go_simp
      refine hKK.out _ _ trivial (fun hHeldS => ?_)
      clear hKK KK sc1 sf1
      refine wpAnyH_done (by kernel_rfl) ?_ _
      refine NoPanic.normal ?_
      go_wp2
      go_roundw
      case rel=>exact⟨k+1,_,by omega,by go_num,RA.out⟩
      case measure=>simp[intOf];omega
  ·obtain rfl:k=n:=by omega
   have FF:Hid (∃G,DAt wr d G (St.init k)∧∀g,G g→w.heap.size≤g):=I.out.done h1 h2
   have BB:Hid (Below w.heap.size w wr):=I.out.below
   clear I
   go_wp2
   go_ret2
   obtain⟨G,f1,f2⟩:=FF.out
   exact⟨d,G,rfl,f1,f2,BB.out⟩
end Go.Proofs.YtjpaodepnacimaaGreatDoor
