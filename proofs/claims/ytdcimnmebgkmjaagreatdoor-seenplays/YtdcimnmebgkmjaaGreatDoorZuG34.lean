/- Parts: SyJ,SnG,DkRs. -/
import Derived.Test.YtdcimnmebgkmjaaGreatDoorZuG32
import Derived.Test.YtdcimnmebgkmjaaGreatDoorZuG33
import Derived.Deep.CutBlock
import Derived.Test.YtdcimnmebgkmjaaGreatDoorZuG15
namespace Go.Proofs.YtdcimnmebgkmjaaGreatDoor
open Go.RowKit Go.Proofs.Fd Go.Proofs.Dk Go.Proofs.Lg
set_option maxRecDepth 20000
theorem ints_old {w:World} {a:Option Addr} {cs:List Int} (h:IntAt w a cs):∀x,a=some x→0 < cs.length→x.block < w.heap.size:=fun x hx h0=>by
 obtain⟨b,o,e,hc⟩:=h 0 h0
 rw[e] at hx
 injection hx with hx
 subst hx
 exact World.block_lt_of_cell? _ _ hc
structure Iv (n:Nat) (most:Int) (k:Nat) (s:St) (o:Option (Lo×Ey)):Prop where
 n:s.n=n
 h:Hh s
 l:s.l.length≤600*k
 g:∀x y,o=some (x,y)→Gn (600+k) y∧1≤most∧most≤4096
def Ps (w:World) (B:Nat) (most:Int) (p d n k:Nat) (w':World):Prop:=∃s o,Bo w w' B most p d s o∧Iv n most k s o
theorem gn_up {a b:Nat} {y:Ey} (g:Gn a y) (h:a≤b):Gn b y:=⟨g.e,g.z,g.t,Nat.le_trans g.n h⟩
theorem Iv.up {n:Nat} {most:Int} {k:Nat} {s:St} {o:Option (Lo×Ey)} (h:Iv n most k s o):Iv n most (k+1) s o :=
 ⟨h.n,h.h,by have:=h.l;omega,fun x y e=>⟨gn_up (h.g x y e).1 (by omega),(h.g x y e).2⟩⟩
section
variable {w wr:World} {B:Nat} {most:Int} {p d:Nat} {s:St} {o:Option (Lo×Ey)}
theorem Bo.bt (h:Bo w wr B most p d s o):∃pv pk Ft Gt,Bt w wr B most p d s o pv pk Ft Gt∧(o=none↔pv=none)∧(o=none↔pk=none):=by
 match o,h with
 | none,⟨F,G,k⟩=>exact⟨none,none,F,G,⟨k.bk,⟨rfl,k.dl⟩,⟨rfl,k.at_⟩,k.fg,k.fb,k.gb,k.dl.new,k.nG,k.nB⟩,⟨fun _=>rfl,fun _=>rfl⟩,⟨fun _=>rfl,fun _=>rfl⟩⟩
 | some (x,y),⟨F,q,v,b,va,vh,G,q',v',b',u,k⟩ =>
  refine⟨some ⟨b,0,none⟩,some ⟨b',0,none⟩,FP F q v b va vh,FZ G q' v' b' u,⟨k.bk,⟨q,b,F,v,va,vh,rfl,k.pz,rfl⟩,⟨q',b',G,v',u,rfl,k.rz,rfl⟩,k.fg,k.fb,k.gb,fun z hz => ?_,k.nG,k.nB⟩,⟨(fun c=>by cases c),(fun c=>by cases c)⟩,⟨(fun c=>by cases c),(fun c=>by cases c)⟩⟩
  rcases hz with c|c
  ·exact (k.pz.lz.fh c).2
  ·exact (k.pz.ap z c).2
theorem Bo.lo {x:Lo} {y:Ey} (h:Bo w wr B most p d s (some (x,y))):x.h≤1∧4≤s.n∧x.ts.length≤512:=by
 obtain⟨F,q,v,b,va,vh,G,q',v',b',u,k⟩:=h
 refine⟨k.pz.lz.h1,k.pz.lz.n4,?_⟩
 have h1:=k.pz.lz.tk
 have h2:=k.pz.lz.n2
 have h3:1+x.ts.length≤x.tk:=tkn_ge_len x.ts
 omega
theorem Bo.start (h:Bo w wr B most p d s o) (bl:Obj):∃pv pk U0,Bx2 w (wr.alloc bl) U0 (wr.alloc bl) B most p d s o s o pv pk∧¬U0 wr.heap.size∧(o=none↔pv=none)∧(o=none↔pk=none):=by
 obtain⟨pv,pk,Ft,Gt,k,h1,h2⟩:=h.bt
 have nb:Below wr.heap.size wr (wr.alloc bl):=(Below.refl _ _).alloc (Nat.le_refl _) _
 refine⟨pv,pk,UU Ft Gt B,⟨Ft,Gt,k.b2.later nb,Nx.refl _ _,Bf.refl _ _⟩,fun c => ?_,h1,h2⟩
 rcases c with c|c|c
 ·exact Nat.lt_irrefl _ (k.pp.lt c)
 ·exact Nat.lt_irrefl _ (k.rp.lt c)
 ·have:=k.bk.lt
  omega
end
section
variable {w w0:World} {U0:Nat→Prop} {wr:World} {B A:Nat} {most:Int} {p d:Nat} {sP sR:St} {ps pk:Option Addr} {ak an:Int} {X P:Value}
theorem Sx2.f8 (h:Sx2 w w0 U0 wr B most p d sP sR ps pk) (hU:¬U0 A) (h0:w0.cell? ⟨A,0,none⟩=some (.int .i64 ak)) (h1:w0.cell? ⟨A,1,none⟩=some (.int .i64 an)) (h2:w0.cell? ⟨A,2,none⟩=some X) (h3:w0.cell? ⟨A,3,none⟩=some P):F8 B A p d ps pk ak an X P wr:=by
 obtain⟨F,G,k,nn,ff⟩:=h
 exact⟨k.bk.c 1 _ rfl,k.bk.c 2 _ rfl,k.bk.c 3 _ rfl,k.bk.c 4 _ rfl,ff.cell h0 hU,ff.cell h1 hU,ff.cell h2 hU,ff.cell h3 hU⟩
theorem Sx2.ok (h:Sx2 w w0 U0 wr B most p d sP sR ps pk):Ok sR:=by
 obtain⟨F,G,k,nn,ff⟩:=h
 exact k.at_.1
theorem Sx2.down (h:Sx2 w w0 U0 wr B most p d sP sR ps pk):wr.cell? ⟨d,3,none⟩=some (.bool sR.down):=by
 obtain⟨F,G,k,nn,ff⟩:=h
 obtain⟨-,sg,sc,v,-,hr⟩:=k.at_
 exact hr.c3
theorem Bx2.bo {s:St} {o:Option (Lo×Ey)} (h:Bx2 w w0 U0 wr B most p d s o s o ps pk):Bo w wr B most p d s o:=by
 obtain⟨Ft,Gt,k,nn,ff⟩:=h
 exact k.bt.bo
end
theorem act_cells (wr:World) (ak an:Int) (X:ByteArray) (pa:Option Addr) (pn pc:Nat) (t:TypeId) :
  (wr.alloc (.cells #[.int .i64 ak,.int .i64 an,.string X,.slice pa pn pc] t)).cell? ⟨wr.heap.size,0,none⟩=some (.int .i64 ak)∧(wr.alloc (.cells #[.int .i64 ak,.int .i64 an,.string X,.slice pa pn pc] t)).cell? ⟨wr.heap.size,1,none⟩=some (.int .i64 an)∧(wr.alloc (.cells #[.int .i64 ak,.int .i64 an,.string X,.slice pa pn pc] t)).cell? ⟨wr.heap.size,2,none⟩=some (.string X)∧(wr.alloc (.cells #[.int .i64 ak,.int .i64 an,.string X,.slice pa pn pc] t)).cell? ⟨wr.heap.size,3,none⟩=some (.slice pa pn pc) :=
 ⟨by simp[go_sem],by simp[go_sem],by simp[go_sem],by simp[go_sem]⟩
theorem bopened_any (w w0:World) (U0:Nat→Prop) (wr:World) (B:Nat) (most:Int) (p d n k:Nat) (hn:n≤60) (hk30:k≤30) (s:St) (ps pk:Option Addr) (hk:Kh w) (h1:s.n=n) (h2:Hh s) (h3:s.l.length≤600*k+300) (h:Sx2 w w0 U0 wr B most p d s s ps pk) :
  Calls Tryz.prog 12 #[.pointer (some ⟨B,0,none⟩)] wr fun e w1=>e = .returned (.bool true)∧Ps w B most p d n (k+1) w1:=by
 have ok:=h.ok
 obtain⟨F,G,sd,-,-⟩:=h.sd
 refine (bopen_any take_c w wr B most p d F G s ps pk (by omega) (by omega) h2 hk sd).mono ?_
 rintro e w1 ⟨e1,e2⟩
 have kp:=kp_opz ok most
 have kl:=kp.l
 refine⟨e1,_,_,e2,kp.n.trans h1,kp.h h2,by omega,fun x y ex => ?_⟩
 rw[ex] at e2
 have lo:=e2.lo
 have gz:=gn_opz ex
 have hm:¬(most < 1∨4096 < most):=fun c=>by
  unfold opz at ex
  rw[if_pos c] at ex
  cases ex
 exact⟨gn_up gz.1 (by omega),by omega,by omega⟩
theorem bforeign_any (w:World) (hk:Kh w) (B:Nat) (most:Int) (p d n k:Nat) (hn:n≤60) (hk30:k≤30) (s:St) (o:Option (Lo×Ey)) (ak an:Int) (X:ByteArray) (pa:Option Addr) (pn pc:Nat) (l:List Int) (hp:IntAt w pa l) (hpn:l.length=pn) (wr:World) (b:Bo w wr B most p d s o) (iv:Iv n most k s o) :
  Calls Tryz.prog 47 #[.pointer (some ⟨B,0,none⟩),.agg #[.int .i64 ak,.int .i64 an,.string X,.slice pa pn pc]] wr fun e w'=>e = .returned (.bool true)∧Ps w B most p d n (k+1) w':=by
 obtain⟨ps,pk,U0,bx,hU,-,-⟩:=b.start (.cells #[.int .i64 ak,.int .i64 an,.string X,.slice pa pn pc] 50)
 obtain⟨-,-,a2,a3⟩:=act_cells wr ak an X pa pn pc 50
 have sx:=bx.sx
 have ok:=sx.ok
 obtain⟨i1,i2,i3,-⟩:=iv
 have kc:=kp_crash ok l
 obtain⟨s1,hs1⟩:∃s1,crS s l=s1:=⟨_,rfl⟩
 have cl:s1.l.length≤600*k:=by have:=kc.l;rw[hs1] at this;omega
 have cn:s1.n=n:=by have:=kc.n;rw[hs1] at this;omega
 have ch:Hh s1:=by have:=kc.h i2;rw[hs1] at this;exact this
 have hlt:=ints_old hp
 obtain⟨W1,hW1⟩:∃W,wr.alloc (.cells #[.int .i64 ak,.int .i64 an,.string X,.slice pa pn pc] 50)=W:=⟨_,rfl⟩
 have hO:∀{W:World},Sx2 w W1 U0 W B most p d s1 s1 ps pk→Kp s1 (opn s1).1.2 122∧((opn s1).1.1=0→(opn s1).2.h≤1):=fun z=>by
  have ok1:=z.ok
  have q1:=kp_opn ok1
  exact⟨q1.mono (by omega),fun e=>(opn_ok e ok1).2.1⟩
 have f4:∀{W:World} {sP sR:St},Sx2 w W1 U0 W B most p d sP sR ps pk→F4 B wr.heap.size p d (.string X) (.slice pa pn pc) W:=fun z=>z.f4 hU (by rw[←hW1];exact a2) (by rw[←hW1];exact a3)
 refine foreign_core B wr.heap.size p d ak an X pa pn pc (opn s1).1.1 (app (opn s1).1.2 (opn s1).2 X.data.toList).1.1 (syE (app (opn s1).1.2 (opn s1).2 X.data.toList).1.2) _
  (fun W=>Sx2 w W1 U0 W B most p d s s ps pk) (fun W=>Sx2 w W1 U0 W B most p d s1 s ps pk) (fun W=>Sx2 w W1 U0 W B most p d s1 s1 ps pk∧Kp s1 (opn s1).1.2 122∧((opn s1).1.1=0→(opn s1).2.h≤1))
  (fun pl W=>Lx w W1 U0 W B most p d (opn s1).1.2 (oLo (opn s1)) s1 none ps pk pl none∧Kp s1 (opn s1).1.2 122∧((opn s1).1.1=0→(opn s1).2.h≤1))
  (fun pl kl W=>Lx w W1 U0 W B most p d (opn s1).1.2 (oLo (opn s1)) (opn s1).1.2 (oLo (opn s1)) ps pk pl kl∧Kp s1 (opn s1).1.2 122∧((opn s1).1.1=0→(opn s1).2.h≤1))
  (fun pl kl W=>Lx w W1 U0 W B most p d (app (opn s1).1.2 (opn s1).2 X.data.toList).1.2 (some (app (opn s1).1.2 (opn s1).2 X.data.toList).2) (opn s1).1.2 (some (opn s1).2) ps pk pl kl∧Kp s1 (app (opn s1).1.2 (opn s1).2 X.data.toList).1.2 162∧Kp s1 (opn s1).1.2 122)
  (fun pl kl W=>Lx w W1 U0 W B most p d (app (opn s1).1.2 (opn s1).2 X.data.toList).1.2 (some (app (opn s1).1.2 (opn s1).2 X.data.toList).2) (app (opn s1).1.2 (opn s1).2 X.data.toList).1.2 (some (app (opn s1).1.2 (opn s1).2 X.data.toList).2) ps pk pl kl∧Kp s1 (app (opn s1).1.2 (opn s1).2 X.data.toList).1.2 162)
  (fun pl kl W=>Lx w W1 U0 W B most p d (syS (app (opn s1).1.2 (opn s1).2 X.data.toList).1.2) (some (app (opn s1).1.2 (opn s1).2 X.data.toList).2) (app (opn s1).1.2 (opn s1).2 X.data.toList).1.2 (some (app (opn s1).1.2 (opn s1).2 X.data.toList).2) ps pk pl kl∧Kp s1 (app (opn s1).1.2 (opn s1).2 X.data.toList).1.2 162)
  (fun pl kl W=>Lx w W1 U0 W B most p d (syS (app (opn s1).1.2 (opn s1).2 X.data.toList).1.2) (some (app (opn s1).1.2 (opn s1).2 X.data.toList).2) (syS (app (opn s1).1.2 (opn s1).2 X.data.toList).1.2) (some (app (opn s1).1.2 (opn s1).2 X.data.toList).2) ps pk pl kl∧Kp s1 (app (opn s1).1.2 (opn s1).2 X.data.toList).1.2 162)
  wr rfl ?_ ?_ ?_ ?_ ?_ ?_ ?_ ?_ ?_ ?_ ?_ ?_ ?_ ?_
 ·exact fun W z=>Sx2.later z (Below.refl _ _).drew
 ·exact fun W z=>Sx2.later z (Below.refl _ _).drew
 ·exact fun a b W z=>⟨Lx.later z.1 (Below.refl _ _).drew,z.2⟩
 ·rw[hW1] at sx ⊢
  exact⟨sx,f4 sx⟩
 ·intro W z
  have:=bcrashP_any w W1 U0 W B most p d s s ps pk pa pn pc l hpn (by omega) hp hlt z
  rw[hs1] at this
  exact this.mono fun _ _ ⟨x1,x2⟩=>⟨x1,f4 x2,x2⟩
 ·intro W z
  have:=bcrashR_any w W1 U0 W B most p d s1 s ps pk pa pn pc l hpn (by omega) hp hlt z
  rw[hs1] at this
  exact this.mono fun _ _ ⟨x1,x2⟩=>⟨x1,f4 x2,x2,hO x2⟩
 ·intro W ⟨z,zz⟩
  refine (flopenP_any w W1 U0 W B most p d s1 s1 none ps pk none (by omega) (by omega) hk z.lx).mono ?_
  rintro e w1 ⟨pl,x1,x2,x3⟩
  refine⟨pl,x1,f4 x2.sx,⟨x2,zz⟩,?_⟩
  unfold oLo at x3
  by_cases c:(opn s1).1.1=0
  ·rw[if_pos c] at x3
   exact⟨fun _ e=>(by have:=x3.2 e;cases this),fun _=>c⟩
  ·rw[if_neg c] at x3
   exact⟨fun e=>absurd e c,fun e=>absurd (x3.1 rfl) e⟩
 ·intro W pl ⟨z,zz⟩
  refine (flopenR_any w W1 U0 W B most p d (opn s1).1.2 s1 (oLo (opn s1)) ps pk pl (by omega) (by omega) ch z).mono ?_
  rintro e w1 ⟨kl,x1,x2,x3⟩
  refine⟨kl,x1,f4 x2.sx,⟨x2,zz⟩,?_⟩
  unfold oLo at x3
  by_cases c:(opn s1).1.1=0
  ·rw[if_pos c] at x3
   exact⟨fun _ e=>(by have:=x3.2 e;cases this),fun _=>c⟩
  ·rw[if_neg c] at x3
   exact⟨fun e=>absurd e c,fun e=>absurd (x3.1 rfl) e⟩
 ·intro W a b hz ⟨z,zz,zh⟩
  have e2:oLo (opn s1)=some (opn s1).2:=if_pos hz
  rw[e2] at z
  have zl:=zz.l
  refine (flappP_any w W1 U0 W B most p d (opn s1).1.2 (opn s1).1.2 (opn s1).2 (some (opn s1).2) ps pk (some a) (some b) X (by omega) hk z).mono ?_
  rintro e w1 ⟨x1,x2⟩
  exact⟨x1,f4 x2.sx,x2,(zz.trans (kp_app (zh hz) X.data.toList)).mono (by omega),zz⟩
 ·intro W a b hz ⟨z,zz,zy⟩
  have zl:=zy.l
  refine (flappR_any w W1 U0 W B most p d _ (opn s1).1.2 (opn s1).2 _ ps pk (some a) (some b) X (by omega) z).mono ?_
  rintro e w1 ⟨x1,x2⟩
  exact⟨x1,f4 x2.sx,x2,zz⟩
 ·intro W a b hz ⟨z,zz⟩
  have zl:=zz.l
  refine (flsyncP_any w W1 U0 W B most p d _ _ _ _ ps pk (some a) (some b) (by omega) z).mono ?_
  rintro e w1 ⟨x1,x2⟩
  exact⟨x1,f4 x2.sx,x2,zz⟩
 ·intro W a b hz ⟨z,zz⟩
  have zl:=zz.l
  refine (flsyncR_any w W1 U0 W B most p d _ _ _ _ ps pk (some a) (some b) (by omega) z).mono ?_
  rintro e w1 ⟨x1,x2⟩
  exact⟨x1,f4 x2.sx,x2,zz⟩
 ·intro W a b hz ⟨z,zz⟩
  have ks:=zz.trans (kp_sync (app (opn s1).1.2 (opn s1).2 X.data.toList).1.2)
  have kl:=ks.l
  exact bopened_any w W1 U0 W B most p d n k hn hk30 _ ps pk hk (ks.n.trans cn) (ks.h ch) (by omega) z.sx
 ·intro W hz ⟨z,zz,zh⟩
  have kl:=zz.l
  exact bopened_any w W1 U0 W B most p d n k hn hk30 _ ps pk hk (zz.n.trans cn) (zz.h ch) (by omega) z.sx
theorem bstep_any (w:World) (hk:Kh w) (B:Nat) (most:Int) (p d n k:Nat) (hn:n≤60) (hk30:k≤30) (s:St) (o:Option (Lo×Ey)) (ak an:Int) (X:ByteArray) (pa:Option Addr) (pn pc:Nat) (l:List Int) (hp:IntAt w pa l) (hpn:l.length=pn) (wr:World) (b:Bo w wr B most p d s o) (iv:Iv n most k s o) :
  Calls Tryz.prog 13 #[.pointer (some ⟨B,0,none⟩),.agg #[.int .i64 ak,.int .i64 an,.string X,.slice pa pn pc]] wr fun e w'=>e = .returned (.bool true)∧Ps w B most p d n (k+1) w':=by
 obtain⟨m,hm6,-,AM⟩:=samong_is ak 6 (by decide) (by decide)
 obtain⟨ps,pk,U0,bx,hU,ips,ipk⟩:=b.start (.cells #[.int .i64 ak,.int .i64 an,.string X,.slice pa pn pc] 50)
 obtain⟨a0,a1,a2,a3⟩:=act_cells wr ak an X pa pn pc 50
 have sx:=bx.sx
 have ok:=sx.ok
 have dn:=sx.down
 have i1:=iv.n
 have i2:=iv.h
 have i3:=iv.l
 have hlt:=ints_old hp
 have nb1:=nb wr (.cells #[.int .i64 ak,.int .i64 an,.string X,.slice pa pn pc] 50)
 obtain⟨W1,hW1⟩:∃W,wr.alloc (.cells #[.int .i64 ak,.int .i64 an,.string X,.slice pa pn pc] 50)=W:=⟨_,rfl⟩
 rw[hW1] at bx sx dn a0 a1 a2 a3 nb1
 have f8:∀{W:World} {sP sR:St},Sx2 w W1 U0 W B most p d sP sR ps pk→F8 B wr.heap.size p d ps pk ak an (.string X) (.slice pa pn pc) W:=fun z=>z.f8 hU a0 a1 a2 a3
 have IDLE:m < 3→(ps=none∨s.down=true)→Calls Tryz.prog 13 #[.pointer (some ⟨B,0,none⟩),.agg #[.int .i64 ak,.int .i64 an,.string X,.slice pa pn pc]] wr fun e w'=>e = .returned (.bool true)∧Ps w B most p d n (k+1) w':=fun h3 hi =>
  step_idle B wr.heap.size p d ps pk ak an X pa pn pc (Ps w B most p d n (k+1)) wr rfl m h3 s.down (ips.symm.trans ipk) hi AM (by rw[hW1];exact⟨dn,⟨s,o,b.later nb1,iv.up⟩,f8 sx⟩)
 by_cases h3:m < 3
 ·match o,ips,ipk,bx,iv,IDLE with
  | none,ips,ipk,bx,iv,IDLE=>exact IDLE h3 (.inl (ips.1 rfl))
  | some (x,y),ips,ipk,bx,iv,IDLE =>
   by_cases hd:s.down=true
   ·exact IDLE h3 (.inr hd)
   ·have hd':s.down=false:=by simpa using hd
    rw[hd'] at dn
    obtain⟨q1,rfl⟩:∃a,ps=some a:=by
     cases ps with
     | none=>exact absurd (ips.2 rfl) (by simp)
     | some a=>exact⟨a,rfl⟩
    obtain⟨q2,rfl⟩:∃a,pk=some a:=by
     cases pk with
     | none=>exact absurd (ipk.2 rfl) (by simp)
     | some a=>exact⟨a,rfl⟩
    obtain⟨gy,m1,m2⟩:=iv.g x y rfl
    have gd:Gd y:=gy.gd (by omega)
    obtain⟨lh,ln,-⟩:=bx.bo.lo
    obtain rfl|rfl|rfl:m=0∨m=1∨m=2:=by omega
    ·refine step_add B wr.heap.size p d q1 q2 ak an X pa pn pc (Ps w B most p d n (k+1)) (fun W=>Bx2 w W1 U0 W B most p d s (some (x,y)) s (some (x,y)) (some q1) (some q2)) (fun W=>Bx2 w W1 U0 W B most p d (adp most.toNat s x y X.data.toList).1.1.2 (some ((adp most.toNat s x y X.data.toList).1.2,(adp most.toNat s x y X.data.toList).2)) s (some (x,y)) (some q1) (some q2)) wr rfl (adp most.toNat s x y X.data.toList).1.1.1 AM (fun W z=>Bx2.later z (Below.refl _ _).drew) (by rw[hW1];exact⟨dn,bx,f8 sx⟩) ?_ ?_
     ·intro W z
      exact (baddP_any w W1 U0 W B most p d s s x y _ _ _ take_c hk X gd (by omega) z).mono fun _ _ ⟨x1,x2⟩=>⟨x1,f8 x2.sx,x2⟩
     ·intro W z
      refine (baddR_any w W1 U0 W B most p d _ s x y _ _ _ X (by omega) gd hd' (by omega) z).mono fun _ _ ⟨x1,x2⟩=>⟨x1,f8 x2.sx,_,_,x2.bo,?_⟩
      have kp:=kp_adp (most:=most.toNat) lh ln y X.data.toList (s:=s)
      have kl:=kp.l
      refine⟨kp.n.trans i1,kp.h i2,by omega,fun x' y' e => ?_⟩
      injection e with e
      injection e with _ e
      subst e
      exact⟨gn_up (gn_adp gy X.data.toList) (by omega),m1,m2⟩
    ·refine step_rot B wr.heap.size p d q1 q2 ak an X pa pn pc (Ps w B most p d n (k+1)) (fun W=>Bx2 w W1 U0 W B most p d s (some (x,y)) s (some (x,y)) (some q1) (some q2)) (fun W=>Bx2 w W1 U0 W B most p d (rop s x y).1.1.2 (some ((rop s x y).1.2,(rop s x y).2)) s (some (x,y)) (some q1) (some q2)) wr rfl (rop s x y).1.1.1 AM (fun W z=>Bx2.later z (Below.refl _ _).drew) (by rw[hW1];exact⟨dn,bx,f8 sx⟩) ?_ ?_
     ·intro W z
      exact (brotP_any w W1 U0 W B most p d s s x y _ _ _ take_c hk gd (by omega) z).mono fun _ _ ⟨x1,x2⟩=>⟨x1,f8 x2.sx,x2⟩
     ·intro W z
      refine (brotR_any w W1 U0 W B most p d _ s x y _ _ _ gd hd' (by omega) z).mono fun _ _ ⟨x1,x2⟩=>⟨x1,f8 x2.sx,_,_,x2.bo,?_⟩
      have kp:=kp_rop lh ln y (s:=s)
      have kl:=kp.l
      refine⟨kp.n.trans i1,kp.h i2,by omega,fun x' y' e => ?_⟩
      injection e with e
      injection e with _ e
      subst e
      exact⟨gn_up (gn_rop gy) (by omega),m1,m2⟩
    ·refine step_has B wr.heap.size p d q1 q2 ak an X pa pn pc (Ps w B most p d n (k+1)) (fun W=>Bx2 w W1 U0 W B most p d s (some (x,y)) s (some (x,y)) (some q1) (some q2)) (fun W=>Bx2 w W1 U0 W B most p d s (some (x,y)) s (some (x,y)) (some q1) (some q2)) wr rfl (decide (X.data.toList∈y.2.1++y.2.2)) AM (fun W z=>Bx2.later z (Below.refl _ _).drew) (by rw[hW1];exact⟨dn,bx,f8 sx⟩) ?_ ?_
     ·intro W z
      exact (bhasP_any w W1 U0 W B most p d s s x y _ _ _ X gd z).mono fun _ _ ⟨x1,x2⟩=>⟨x1,by subst x2;exact f8 z.sx,by subst x2;exact z⟩
     ·intro W z
      exact (bhasR_any w W1 U0 W B most p d _ s x y _ _ _ X gd z).mono fun _ _ ⟨x1,x2⟩=>⟨x1,by subst x2;exact f8 z.sx,_,_,by subst x2;exact z.bo,iv.up⟩
 ·obtain rfl|rfl|rfl:m=3∨m=4∨m=5:=by omega
  ·refine step_fuse B wr.heap.size p d ps pk ak an X pa pn pc (Ps w B most p d n (k+1)) (fun W=>Bx2 w W1 U0 W B most p d s o s o ps pk) (fun W=>Bx2 w W1 U0 W B most p d (fuS s an) o s o ps pk) wr rfl (fuE s an) AM (fun W z=>Bx2.later z (Below.refl _ _).drew) (by rw[hW1];exact⟨bx,f8 sx⟩) ?_ ?_
   ·intro W z
    exact (bfuseP_any w W1 U0 W B most p d s o s o ps pk an z).mono fun _ _ ⟨x1,x2⟩=>⟨x1,f8 x2.sx,x2⟩
   ·intro W z
    refine (bfuseR_any w W1 U0 W B most p d _ o s o ps pk an z).mono fun _ _ ⟨x1,x2⟩=>⟨x1,f8 x2.sx,_,_,x2.bo,?_⟩
    have kp:=kp_fuse s an
    have kl:=kp.l
    exact⟨kp.n.trans i1,kp.h i2,by omega,iv.up.g⟩
  ·have kc:=kp_crash ok l
   have cl:=kc.l
   refine step_crash B wr.heap.size p d ps pk ak an X pa pn pc (Ps w B most p d n (k+1)) (fun W=>Sx2 w W1 U0 W B most p d s s ps pk) (fun W=>Sx2 w W1 U0 W B most p d (crS s l) s ps pk) (fun W=>Sx2 w W1 U0 W B most p d (crS s l) (crS s l) ps pk) wr rfl AM (fun W z=>Sx2.later z (Below.refl _ _).drew) (fun W z=>Sx2.later z (Below.refl _ _).drew) (by rw[hW1];exact⟨sx,f8 sx⟩) ?_ ?_ ?_
   ·intro W z
    exact (bcrashP_any w W1 U0 W B most p d s s ps pk pa pn pc l hpn (by omega) hp hlt z).mono fun _ _ ⟨x1,x2⟩=>⟨x1,f8 x2,x2⟩
   ·intro W z
    exact (bcrashR_any w W1 U0 W B most p d _ s ps pk pa pn pc l hpn (by omega) hp hlt z).mono fun _ _ ⟨x1,x2⟩=>⟨x1,f8 x2,x2⟩
   ·intro W z
    exact bopened_any w W1 U0 W B most p d n k hn hk30 _ ps pk hk (kc.n.trans i1) (kc.h i2) (by omega) z
  ·refine step_foreign B wr.heap.size p d ps pk ak an X pa pn pc (Ps w B most p d n (k+1)) (fun W=>Bo w W B most p d s o) wr rfl AM (by rw[hW1];exact⟨b.later nb1,f8 sx⟩) ?_
   intro W z
   exact bforeign_any w hk B most p d n k hn hk30 s o ak an X pa pn pc l hp hpn W z iv
end Go.Proofs.YtdcimnmebgkmjaaGreatDoor
namespace Go.Proofs.YtdcimnmebgkmjaaGreatDoor
open Go.RowKit Go.Proofs.Fd Go.Proofs.Dk Go.Proofs.Lg
set_option maxRecDepth 20000
def ts6:Bs:=[115,105,120,116,101,101,110,32,98,121,116,101,115,32,33,33]
set_option maxHeartbeats 4000000 in
theorem sworks_any (w:World) (hk:Hid (Kh w)):Calls Tryz.prog 11 #[] w fun e w'=>e = .returned (.bool true)∧Below w.heap.size w w':=by
 have NW:Hid _:=newL w w 40 (by decide) (by decide) (Below.refl _ _)
 have OP:Hid (∀p F W,Dl w W p F (up 40 zs [])→Calls Tryz.prog 40 #[.pointer (some ⟨p,0,none⟩),.int .i64 10] W fun e w'=>∃b,e = .returned (.tuple #[.pointer (some ⟨b,0,none⟩),.int .i64 0])∧Sx w w' b 40 10 0 0 [] []):=fun p F W d=>sopen_new w W p F 40 10 (by decide) (by decide) (by decide) (by decide) hk d
 have A1:Hid (∀b W,Sx w W b 40 10 0 0 [] []→Calls Tryz.prog 41 #[.pointer (some ⟨b,0,none⟩),.string ⟨#[115,105,120,116,101,101,110,32,98,121,116,101,115,32,33,33]⟩] W fun e w'=>e = .returned (.int .i64 0)∧Sx w w' b 40 10 1 0 [] [ts6]):=fun b W s=>sadd_ok w W b 40 10 0 0 [] [] ts6 rfl (by simp) (by decide) (by decide) (by decide) hk s
 have A2:Hid (∀b W,Sx w W b 40 10 1 0 [] [ts6]→Calls Tryz.prog 41 #[.pointer (some ⟨b,0,none⟩),.string ⟨#[115,105,120,116,101,101,110,32,98,121,116,101,115,32,33,33]⟩] W fun e w'=>e = .returned (.int .i64 170)∧w'=W):=fun b W s=>sadd_seen w W b 40 10 1 0 [] [ts6] ts6 rfl (by simp) (by decide) s
 have R1:Hid (∀b W,Sx w W b 40 10 1 0 [] [ts6]→Calls Tryz.prog 42 #[.pointer (some ⟨b,0,none⟩)] W fun e w'=>e = .returned (.int .i64 0)∧Sx w w' b 40 10 2 1 [ts6] []):=fun b W s=>srot_ok w W b 40 10 1 0 [] [ts6] (by decide) (by decide) hk s
 have H1:Hid (∀b W,Sx w W b 40 10 2 1 [ts6] []→Calls Tryz.prog 43 #[.pointer (some ⟨b,0,none⟩),.string ⟨#[115,105,120,116,101,101,110,32,98,121,116,101,115,32,33,33]⟩] W fun e w'=>e = .returned (.bool true)∧w'=W):=fun b W s=>hasX w W b 40 10 2 1 [ts6] [] ts6 (by decide) s
 have R2:Hid (∀b W,Sx w W b 40 10 2 1 [ts6] []→Calls Tryz.prog 42 #[.pointer (some ⟨b,0,none⟩)] W fun e w'=>e = .returned (.int .i64 0)∧Sx w w' b 40 10 3 2 [] []):=fun b W s=>srot_ok w W b 40 10 2 1 [ts6] [] (by decide) (by decide) hk s
 have A3:Hid (∀b W,Sx w W b 40 10 3 2 [] []→Calls Tryz.prog 41 #[.pointer (some ⟨b,0,none⟩),.string ⟨#[115,105,120,116,101,101,110,32,98,121,116,101,115,32,33,33]⟩] W fun e w'=>e = .returned (.int .i64 0)∧Sx w w' b 40 10 4 2 [] [ts6]):=fun b W s=>sadd_ok w W b 40 10 3 2 [] [] ts6 rfl (by simp) (by decide) (by decide) (by decide) hk s
 have E1:Hid (∀b W,Sx w W b 40 10 4 2 [] [ts6]→Calls Tryz.prog 14 #[.pointer (some ⟨b,0,none⟩)] W fun e w'=>e = .returned (.int .i64 2)∧w'=W):=fun b W s=>epochX w W b 40 10 4 2 [] [ts6] s
 clear hk
 go_enter Tryz.func11, Tryz.ntmps11
 go_wp2_with fail
 refine Calls.mono NW.out ?_
 rintro e w1 ⟨p,F,rfl,I1,-,-⟩
 have J1:Hid (Dl w w1 p F (up 40 zs [])):=I1
 clear NW I1
 go_wp2_with fail
 refine Calls.mono (OP.out p F w1 J1.out) ?_
 rintro e w2 ⟨b,rfl,s2⟩
 have J2:Hid _:=s2
 clear OP J1 s2
 go_wp2_with fail
 refine Calls.mono (A1.out b w2 J2.out) ?_
 rintro e w3 ⟨rfl,s3⟩
 have J3:Hid _:=s3
 clear A1 J2 s3
 go_wp2_with fail
 refine Calls.mono (A2.out b w3 J3.out) ?_
 rintro e w4 ⟨rfl,rfl⟩
 clear A2
 go_wp2_with fail
 refine Calls.mono (R1.out b w4 J3.out) ?_
 rintro e w5 ⟨rfl,s5⟩
 have J5:Hid _:=s5
 clear R1 J3 s5
 go_wp2_with fail
 refine Calls.mono (H1.out b w5 J5.out) ?_
 rintro e w6 ⟨rfl,rfl⟩
 clear H1
 go_wp2_with fail
 refine Calls.mono (R2.out b w6 J5.out) ?_
 rintro e w7 ⟨rfl,s7⟩
 have J7:Hid _:=s7
 clear R2 J5 s7
 go_wp2_with fail
 refine Calls.mono (A3.out b w7 J7.out) ?_
 rintro e w8 ⟨rfl,s8⟩
 have J8:Hid _:=s8
 clear A3 J7 s8
 go_wp2_with fail
 refine Calls.mono (E1.out b w8 J8.out) ?_
 rintro e w9 ⟨rfl,rfl⟩
 have BB:Hid (Below w.heap.size w w9):=Sx.below J8.out
 clear E1 J8
 go_wp2
 go_ret
 exact⟨rfl,BB.out⟩
end Go.Proofs.YtdcimnmebgkmjaaGreatDoor
namespace Go.Proofs.YtdcimnmebgkmjaaGreatDoor
open Go.RowKit Go.Proofs.Fd Go.Proofs.Dk
set_option maxRecDepth 20000
theorem infoSz:(Tryz.prog.info? 9).map (fun i=>(i.zero,i.size,i.bytes))=some (some (.string ⟨#[]⟩),1,16):=by kernel_rfl
abbrev OwnsSz (w:World) (v:Value) (k:Nat):Prop:=w.ownsRow 0 9 1 v k (List.replicate k (sv (zs 0)))
theorem app_z (W:World) (v:Value) (k:Nat) (h:OwnsSz W v k) (hk:k≤1024) :
  ∃va vc w',(Builtin.append_ #[37, 37] 37 #[v,.slice (some ⟨W.heap.size,0,none⟩) 1 1]).run Tryz.prog (W.alloc (.cells #[sv (zs 0)] 9)) = .ok (.slice va (k+1) vc) w'∧Hid (OwnsSz w' (.slice va (k+1) vc) (k+1)∧Bf (fun g=>v.ownBlock=some g) W w'∧∀g,(Value.slice va (k+1) vc).ownBlock=some g→v.ownBlock=some g∨W.heap.size≤g):=by
 obtain⟨i0,hi,hz0,hz1,hz2⟩:=info_parts infoSz
 have b0:Below W.heap.size W (W.alloc (.cells #[sv (zs 0)] 9)):=(Below.refl _ _).alloc (Nat.le_refl _) _
 have h1:OwnsSz (W.alloc (.cells #[sv (zs 0)] 9)) v k:=ownsRow_same h (fun g e=>b0.block g (h.lt g e).2)
 obtain⟨v',w',r1,r2,r3,-,r5⟩:=run_append_own_at (P:=Tryz.prog) _ 0 37 37 9 i0 _ 1 16 Tryz.underlying37 hi hz0 hz1 hz2 rfl (by decide) v k _ h1 ⟨W.heap.size,0,none⟩ 1 1 [sv (zs 0)] rfl (fun j u hu=>by
   rw[Addr.add_mid,Nat.zero_add,World.cell?_alloc_new]
   simpa using hu) (fun u hu=>by rw[List.mem_singleton] at hu;subst hu;rfl) (by unfold maxLen;omega) (by omega) (Nat.zero_le _)
 have r2':OwnsSz w' v' (k+1):=by
  unfold OwnsSz
  rw[List.replicate_succ']
  exact r2
 obtain⟨va,vc,rfl⟩:∃va vc,v' = .slice va (k+1) vc:=by
  rcases r2'.2 with ⟨rfl,h2⟩|⟨g,cap,cur,rfl,-⟩
  ·omega
  ·exact⟨_,_,rfl⟩
 refine⟨va,vc,w',r1,r2',⟨r3.os.trans b0.os,r3.tape.trans b0.tape,r3.output.trans b0.output,Nat.le_trans b0.size r3.size,fun g hg hF=>(r3.block g (Nat.lt_of_lt_of_le hg b0.size) (fun e=>hF e.symm)).trans (b0.block g hg)⟩,fun g e => ?_⟩
 rcases r5 with c|c
 ·exact .inl (c.symm.trans e)
 ·rw[c] at e
  injection e with e
  have:=b0.size
  exact .inr (by omega)
structure Mk (w wr:World) (d n k:Nat) (v:Value):Prop where
 c0:wr.cell? ⟨d,0,none⟩=some v
 c1:wr.cell? ⟨d,1,none⟩=some (.slice none 0 0)
 c2:wr.cell? ⟨d,2,none⟩=some (.int .i64 0)
 c3:wr.cell? ⟨d,3,none⟩=some (.bool false)
 c4:wr.cell? ⟨d,4,none⟩=some (.int .i64 (n:Int))
 fr:∀o,wr.frozen? ⟨d,o,none⟩=false
 row:OwnsSz wr v k
 nd:w.heap.size≤d
 vd:v.ownBlock≠some d
 nv:∀g,v.ownBlock=some g→w.heap.size≤g
 below:Below w.heap.size w wr
theorem Mk.later {w wr w':World} {d n k:Nat} {v:Value} (h:Mk w wr d n k v) (hb:Below wr.heap.size wr w'):Mk w w' d n k v:=by
 have ld:d < wr.heap.size:=World.block_lt_of_cell? _ _ h.c0
 exact⟨cell_later hb h.c0,cell_later hb h.c1,cell_later hb h.c2,cell_later hb h.c3,cell_later hb h.c4,fun o=>(frozen_kept hb ld).trans (h.fr o),ownsRow_same h.row (fun g e=>hb.block g (h.row.lt g e).2),h.nd,h.vd,h.nv,chain h.below hb⟩
theorem Mk.next {w wr w':World} {d n k:Nat} {v u:Value} (h:Mk w wr d n k v) (ho:OwnsSz w' u (k+1)) (hb:Bf (fun g=>v.ownBlock=some g) wr w') (hu:∀g,u.ownBlock=some g→v.ownBlock=some g∨wr.heap.size≤g):w'.cell? ⟨d,0,none⟩=some v∧w'.frozen? ⟨d,0,none⟩=false∧Mk w (w'.setCell ⟨d,0,none⟩ u) d n (k+1) u:=by
 have ld:d < wr.heap.size:=World.block_lt_of_cell? _ _ h.c0
 have hd:w'.heap[d]?=wr.heap[d]?:=hb.block d ld (fun e=>h.vd e)
 have cp:∀o,w'.cell? ⟨d,o,none⟩=wr.cell? ⟨d,o,none⟩:=fun o=>World.cell?_of_block (a:=⟨d,o,none⟩) hd
 have fp:∀o,w'.frozen? ⟨d,o,none⟩=wr.frozen? ⟨d,o,none⟩:=fun o=>World.frozen?_of_block (a:=⟨d,o,none⟩) hd
 have ud:u.ownBlock≠some d:=fun e=>by
  rcases hu d e with c|c
  ·exact h.vd c
  ·omega
 obtain⟨s0,co,bo,fo⟩:=set_lemmas w' d 0 u _ ((cp 0).trans h.c0)
 refine⟨(cp 0).trans h.c0,(fp 0).trans (h.fr 0),s0,co 1 _ (by decide) ((cp 1).trans h.c1),co 2 _ (by decide) ((cp 2).trans h.c2),co 3 _ (by decide) ((cp 3).trans h.c3),co 4 _ (by decide) ((cp 4).trans h.c4),fun o=>(fo o).trans ((fp o).trans (h.fr o)),ownsRow_same ho (fun g e=>bo g (fun c=>ud (by rw[e,c]))),h.nd,ud,fun g e => ?_,?_⟩
 ·rcases hu g e with c|c
  ·exact h.nv g c
  ·exact Nat.le_trans h.below.size c
 ·exact (h.below.trans (hb.below h.nv h.below.size)).setCell (p:=⟨d,0,none⟩) h.nd _
theorem Mk.done {w wr:World} {d n:Nat} {v:Value} (h:Mk w wr d n n v) (h1:1≤n) (h2:n≤1024):∃G,DAt wr d G (St.init n)∧∀g,G g→w.heap.size≤g:=by
 obtain⟨sg,sc,rfl⟩:∃sg sc,v = .slice (some ⟨sg,0,none⟩) n sc:=by
  rcases h.row.2 with ⟨rfl,c⟩|⟨g,cap,cur,rfl,-⟩
  ·omega
  ·exact⟨g,cap,rfl⟩
 have hs:(Value.slice (some ⟨sg,0,none⟩) n sc).ownBlock=some sg:=rfl
 refine⟨DFoot d sg (.slice none 0 0),⟨Ok.init h1 h2,sg,sc,.slice none 0 0,rfl,h.c0,h.c1,h.c2,h.c3,h.c4,h.fr,⟨fun k hk => ?_,fun k=>h.row.frozenAt k⟩,World.ownsRow_nil _ _ _ _,fun e=>h.vd (by rw[hs,e]),nofun,nofun,h1⟩,fun g hg => ?_⟩
 ·have hk':k < n:=hk
  rw[h.row.cellAt k (by omega),List.getElem?_replicate,if_pos hk']
  rfl
 ·rcases hg with rfl|rfl|e
  ·exact h.nd
  ·exact h.nv _ hs
  ·cases e
theorem rnew_no (n:Int) (h:n < 1∨1024 < n) (w:World) :
  Calls Tryz.prog 6 #[.int .i64 n] w fun e w'=>e = .returned (.tuple #[.pointer none,.int .i64 1])∧w'=w:=by
 rcases h with h|h
 ·go_enter Tryz.func6, Tryz.ntmps6
  go_wp2
  go_ret2
  exact⟨rfl,rfl⟩
 ·have h1:¬n < 1:=by omega
  go_enter Tryz.func6, Tryz.ntmps6
  go_wp2
  go_ret2
  exact⟨rfl,rfl⟩
def oprn0:Oper:={ dst:=some 20,op:=Go.Op.move (Go.Operand.tmp 4),type := 27, pos := "ref.go:38", after:=#[],guard:=none }
def oprn1:Oper:={ dst:=some 21,op:=Go.Op.move (Go.Operand.tmp 4),type := 27, pos := "ref.go:38", after:=#[],guard:=none }
def oprn2:Oper:={ dst:=some 22,op:=Go.Op.nilCheck (Go.Operand.tmp 21),type:=0,pos := "ref.go:38", after:=#[{ on:=1,ground:=Go.Ground.data }],guard:=none }
def oprn3:Oper:={ dst:=some 23,op:=Go.Op.fieldAddr 53 (Go.Operand.tmp 22) 0,type:=0,pos := "ref.go:38", after:=#[{ on:=2,ground:=Go.Ground.data }],guard:=none }
def oprn4:Oper:={ dst:=some 24,op:=Go.Op.load 37 (Go.Operand.tmp 23),type := 37, pos := "ref.go:38", after:=#[{ on:=3,ground:=Go.Ground.data }],guard:=none }
def oprn5:Oper:={ dst:=some 25,op:=Go.Op.makeSlice 68 (Go.Operand.const (Go.Value.int Go.IntKind.i64 64)) (Go.Operand.const (Go.Value.int Go.IntKind.i64 64)),type := 68, pos := "ref.go:38", after:=#[],guard:=none }
def oprn6:Oper:={ dst:=some 26,op:=Go.Op.convert 68 9 (Go.Operand.tmp 25),type := 9, pos := "ref.go:38", after:=#[{ on:=5,ground:=Go.Ground.data }],guard:=none }
def oprn7:Oper:={ dst:=some 27,op:=Go.Op.buildSlice 37 1 #[(0,Go.Operand.tmp 26)],type := 37, pos := "ref.go:38", after:=#[{ on:=6,ground:=Go.Ground.data }],guard:=none }
def oprn8:Oper:={ dst:=some 28,op:=Go.Op.call { callee:=Go.Callee.builtin Go.Builtin.append,args:=#[Go.Operand.tmp 24,Go.Operand.tmp 27],argTypes:=#[37, 37] },type := 37, pos := "ref.go:38", after:=#[{ on:=4,ground:=Go.Ground.data },{ on:=7,ground:=Go.Ground.data }],guard:=none }
def oprn9:Oper:={ dst:=some 29,op:=Go.Op.nilCheck (Go.Operand.tmp 20),type:=0,pos := "ref.go:38", after:=#[{ on:=0,ground:=Go.Ground.data },{ on:=0,ground:=Go.Ground.phase },{ on:=1,ground:=Go.Ground.phase },{ on:=2,ground:=Go.Ground.phase },{ on:=3,ground:=Go.Ground.phase },{ on:=4,ground:=Go.Ground.phase },{ on:=5,ground:=Go.Ground.phase },{ on:=6,ground:=Go.Ground.phase },{ on:=7,ground:=Go.Ground.phase },{ on:=8,ground:=Go.Ground.phase }],guard:=none }
def oprn10:Oper:={ dst:=some 30,op:=Go.Op.fieldAddr 53 (Go.Operand.tmp 29) 0,type:=0,pos := "ref.go:38", after:=#[{ on:=9,ground:=Go.Ground.data },{ on:=0,ground:=Go.Ground.phase },{ on:=1,ground:=Go.Ground.phase },{ on:=2,ground:=Go.Ground.phase },{ on:=3,ground:=Go.Ground.phase },{ on:=4,ground:=Go.Ground.phase },{ on:=5,ground:=Go.Ground.phase },{ on:=6,ground:=Go.Ground.phase },{ on:=7,ground:=Go.Ground.phase },{ on:=8,ground:=Go.Ground.phase }],guard:=none }
def oprn11:Oper:={ dst:=none,op:=Go.Op.store 37 (Go.Operand.tmp 30) (Go.Operand.tmp 28),type:=0,pos := "ref.go:38", after:=#[{ on:=10,ground:=Go.Ground.data },{ on:=8,ground:=Go.Ground.data },{ on:=8,ground:=Go.Ground.chain },{ on:=0,ground:=Go.Ground.phase },{ on:=1,ground:=Go.Ground.phase },{ on:=2,ground:=Go.Ground.phase },{ on:=3,ground:=Go.Ground.phase },{ on:=4,ground:=Go.Ground.phase },{ on:=5,ground:=Go.Ground.phase },{ on:=6,ground:=Go.Ground.phase },{ on:=7,ground:=Go.Ground.phase },{ on:=8,ground:=Go.Ground.phase }],guard:=none }
set_option maxHeartbeats 2000000 in
theorem rnew_any (n:Nat) (h1:1≤n) (h2:n≤1024) (w:World) :
  Calls Tryz.prog 6 #[.int .i64 (n:Int)] w fun e w'=>∃d G,e = .returned (.tuple #[.pointer (some ⟨d,0,none⟩),.int .i64 0])∧DAt w' d G (St.init n)∧(∀g,G g→w.heap.size≤g)∧Below w.heap.size w w':=by
 have g1:¬(n:Int) < 1:=by omega
 have g2:¬(1024:Int) < (n:Int):=by omega
 obtain⟨M,MK',hM'⟩:=make_64
 have MK:Hid (∀w:World,_):=MK'
 have HM:Hid (∀w:World,_):=hM'
 clear MK' hM'
 go_enter Tryz.func6, Tryz.ntmps6
 go_wp2_with fail
 have I0:Hid (Mk w (w.alloc (.cells #[.slice none 0 0,.slice none 0 0,.int .i64 0,.bool false,.int .i64 (n:Int)] 53)) w.heap.size n 0 (.slice none 0 0)) :=
  ⟨by simp[go_sem],by simp[go_sem],by simp[go_sem],by simp[go_sem],by simp[go_sem],fun o=>by simp[go_sem],World.ownsRow_nil _ _ _ _,Nat.le_refl _,nofun,nofun,(Below.refl _ _).alloc (Nat.le_refl _) _⟩
 obtain⟨d,hd⟩:∃d,w.heap.size=d:=⟨_,rfl⟩
 obtain⟨w1,hw1⟩:∃w1,w.alloc (.cells #[.slice none 0 0,.slice none 0 0,.int .i64 0,.bool false,.int .i64 (n:Int)] 53)=w1:=⟨_,rfl⟩
 have HD:Hid (w.heap.size=d):=hd
 rw[hw1] at I0 ⊢
 rw[hd] at I0 ⊢
 clear hw1 hd g1 g2
 go_loopw [5] (fun i wr=>∃(k:Nat) (v:Value),k≤n∧i = .int .i64 (k:Int)∧Hid (Mk w wr d n k v)) (fun i wr=>n - (intOf i).toNat)
 case atStart=>exact⟨0,_,Nat.zero_le _,rfl,I0.out⟩
 case round =>
  obtain⟨k,v,hk,rfl,I⟩:=hrel
  clear I0
  by_cases hlt:k < n
  ·have gk:(k:Int) < (n:Int):=by omega
   have I2:Hid (Mk w wr.drew d n k v):=I.out.later (Below.refl _ _).drew
   clear I
   go_upto_region 7 with fail
   obtain⟨Z,hZ⟩:∃Z,wr.drew=Z:=⟨_,rfl⟩
   rw[hZ] at I2
   have I3:Mk w (Z.alloc (.cells M 5)) d n k v:=I2.out.later ((Below.refl _ _).alloc (Nat.le_refl _) _)
   have S1:=HM.out Z
   have CV:Hid _:=text_at (S1.at_ 0 (by decide)) 64
   have C4:Hid (Z.cell? ⟨d,0,none⟩=some v):=I2.out.c0
   obtain⟨va,vc,w',hr',AO⟩:=app_z (Z.alloc (.cells M 5)) v k I3.row (by omega)
   obtain⟨n1,n2,n3⟩:=I3.next AO.out.1 AO.out.2.1 AO.out.2.2
   have SC:Hid (w'.cell? ⟨d,0,none⟩=some v∧w'.frozen? ⟨d,0,none⟩=false):=⟨n1,n2⟩
   have RA:Hid (Mk w (w'.setCell ⟨d,0,none⟩ (.slice va (k+1) vc)) d n (k+1) (.slice va (k+1) vc)):=n3
   have es:(Z.alloc (.cells M 5)).heap.size=Z.heap.size+1:=by simp
   rw[es] at hr'
   have HR:Hid _:=hr'
   have E64:Hid ((convert 68 9 (.slice (some ⟨Z.heap.size,0,none⟩) 64 64)).run Tryz.prog (Z.alloc (.cells M 5)) = .ok (sv (zs 0)) (Z.alloc (.cells M 5))):=by
    have:=CV.out
    rw[List.length_replicate,Nat.zero_mul] at this
    exact this
   clear I2 I3 S1 AO n1 n2 n3 hr' CV es
   refine wp_region_noPanic ?_
   refine wp_region_held_drew (S:=fun _=>True) (by kernel_rfl) (trivial) (fun hHeld => ?_)
   rw[hZ]
   clear hZ
   refine wpAnyH_take (i:=0) (oi:=oprn0) (v := ?_) rfl (by kernel_rfl) (by kernel_rfl) (by kernel_rfl) (fun _ _ _ h=>h) (Or.inl ⟨by rfl,?_⟩) (by assumption) ?_
   rotate_left
   ·intro w' hSw
    clear hSw
    unfold oprn0
    first
    | (go_simp;done)
    | (go_simp;with_reducible rfl)
   simp only[oprn0,Act.put,List.setIfInBounds_toArray,List.set_cons_zero,List.set_cons_succ]
   refine wpAnyH_take (i:=1) (oi:=oprn1) (v := ?_) rfl (by kernel_rfl) (by kernel_rfl) (by kernel_rfl) (fun _ _ _ h=>h) (Or.inl ⟨by rfl,?_⟩) (by assumption) ?_
   rotate_left
   ·intro w' hSw
    clear hSw
    unfold oprn1
    first
    | (go_simp;done)
    | (go_simp;with_reducible rfl)
   simp only[oprn1,Act.put,List.setIfInBounds_toArray,List.set_cons_zero,List.set_cons_succ]
   refine wpAnyH_take (i:=2) (oi:=oprn2) (v := ?_) rfl (by kernel_rfl) (by kernel_rfl) (by kernel_rfl) (fun _ _ _ h=>h) (Or.inl ⟨by rfl,?_⟩) (by assumption) ?_
   rotate_left
   ·intro w' hSw
    clear hSw
    unfold oprn2
    first
    | (go_simp;done)
    | (go_simp;with_reducible rfl)
   simp only[oprn2,Act.put,List.setIfInBounds_toArray,List.set_cons_zero,List.set_cons_succ]
   refine wpAnyH_take (i:=3) (oi:=oprn3) (v := ?_) rfl (by kernel_rfl) (by kernel_rfl) (by kernel_rfl) (fun _ _ _ h=>h) (Or.inl ⟨by rfl,?_⟩) (by assumption) ?_
   rotate_left
   ·intro w' hSw
    clear hSw
    unfold oprn3
    first
    | (go_simp;done)
    | (go_simp;with_reducible rfl)
   simp only[oprn3,Act.put,List.setIfInBounds_toArray,List.set_cons_zero,List.set_cons_succ]
   refine wpAnyH_ready (rs:=[4,5]) (by kernel_rfl) (by simp) ?_
   refine AllReadyH.cons (o:=oprn4) rfl (fun KK hKK => ?_) (AllReadyH.cons (o:=oprn5) rfl (fun KK hKK => ?_) AllReadyH.nil)
   ·have lc:=C4.out
    unfold oprn4
    go_simp
    refine hKK.out _ _ trivial (fun hHeld4 => ?_)
    clear hKK KK lc
    refine wpAnyH_ready (rs:=[5]) (by kernel_rfl) (by simp) ?_
    refine AllReadyH.cons (o:=oprn5) rfl (fun KK hKK => ?_) AllReadyH.nil
    have lc:=MK.out Z
    unfold oprn5
    go_simp
    refine hKK.out _ _ trivial (fun hHeld5 => ?_)
    clear hKK KK lc
    refine wpAnyH_ready (rs:=[6]) (by kernel_rfl) (by simp) ?_
    refine AllReadyH.cons (o:=oprn6) rfl (fun KK hKK => ?_) AllReadyH.nil
    have lc:=E64.out
    unfold oprn6
    go_simp
    refine hKK.out _ _ trivial (fun hHeld6 => ?_)
    clear hKK KK lc
    refine wpAnyH_ready (rs:=[7]) (by kernel_rfl) (by simp) ?_
    refine AllReadyH.cons (o:=oprn7) rfl (fun KK hKK => ?_) AllReadyH.nil
    unfold oprn7
    go_simp
    refine hKK.out _ _ trivial (fun hHeld7 => ?_)
    clear hKK KK
    refine wpAnyH_ready (rs:=[8]) (by kernel_rfl) (by simp) ?_
    refine AllReadyH.cons (o:=oprn8) rfl (fun KK hKK => ?_) AllReadyH.nil
    have hr:=HR.out
    rw[if_pos (by kernel_rfl)]
    refine Go.Lib.wp_append_run _ _ _ _ _ rfl _ _ rfl rfl _ _ hr ?_
    refine hKK.out _ _ trivial (fun hHeldA => ?_)
    clear hKK KK hr
    simp only[oprn8,Act.put,List.setIfInBounds_toArray,List.set_cons_zero,List.set_cons_succ]
    refine wpAnyH_take (i:=9) (oi:=oprn9) (v := ?_) rfl (by kernel_rfl) (by kernel_rfl) (by kernel_rfl) (fun _ _ _ h=>h) (Or.inl ⟨by rfl,?_⟩) (by assumption) ?_
    rotate_left
    ·intro w' hSw
     clear hSw
     unfold oprn9
     first
     | (go_simp;done)
     | (go_simp;with_reducible rfl)
    simp only[oprn9,Act.put,List.setIfInBounds_toArray,List.set_cons_zero,List.set_cons_succ]
    refine wpAnyH_take (i:=10) (oi:=oprn10) (v := ?_) rfl (by kernel_rfl) (by kernel_rfl) (by kernel_rfl) (fun _ _ _ h=>h) (Or.inl ⟨by rfl,?_⟩) (by assumption) ?_
    rotate_left
    ·intro w' hSw
     clear hSw
     unfold oprn10
     first
     | (go_simp;done)
     | (go_simp;with_reducible rfl)
    simp only[oprn10,Act.put,List.setIfInBounds_toArray,List.set_cons_zero,List.set_cons_succ]
    refine wpAnyH_ready (rs:=[11]) (by kernel_rfl) (by simp) ?_
    refine AllReadyH.cons (o:=oprn11) rfl (fun KK hKK => ?_) AllReadyH.nil
    have sc1:=SC.out.1
    have sf1:=SC.out.2
    unfold oprn11
    go_simp
    refine hKK.out _ _ trivial (fun hHeldS => ?_)
    clear hKK KK sc1 sf1
    refine wpAnyH_done (by kernel_rfl) ?_ _
    refine NoPanic.normal ?_
    go_wp2
    go_roundw
    case rel=>exact⟨k+1,_,by omega,by go_num,RA.out⟩
    case measure=>simp[intOf];omega
   ·have lc:=MK.out Z
    unfold oprn5
    go_simp
    refine hKK.out _ _ trivial (fun hHeld5 => ?_)
    clear hKK KK lc
    refine wpAnyH_ready (rs:=[4,6]) (by kernel_rfl) (by simp) ?_
    refine AllReadyH.cons (o:=oprn4) rfl (fun KK hKK => ?_) (AllReadyH.cons (o:=oprn6) rfl (fun KK hKK => ?_) AllReadyH.nil)
    ·have lc:=(cell_alloc (o:=(.cells M 5)) C4.out)
     unfold oprn4
     go_simp
     refine hKK.out _ _ trivial (fun hHeld4 => ?_)
     clear hKK KK lc
     refine wpAnyH_ready (rs:=[6]) (by kernel_rfl) (by simp) ?_
     refine AllReadyH.cons (o:=oprn6) rfl (fun KK hKK => ?_) AllReadyH.nil
     have lc:=E64.out
     unfold oprn6
     go_simp
     refine hKK.out _ _ trivial (fun hHeld6 => ?_)
     clear hKK KK lc
     refine wpAnyH_ready (rs:=[7]) (by kernel_rfl) (by simp) ?_
     refine AllReadyH.cons (o:=oprn7) rfl (fun KK hKK => ?_) AllReadyH.nil
     unfold oprn7
     go_simp
     refine hKK.out _ _ trivial (fun hHeld7 => ?_)
     clear hKK KK
     refine wpAnyH_ready (rs:=[8]) (by kernel_rfl) (by simp) ?_
     refine AllReadyH.cons (o:=oprn8) rfl (fun KK hKK => ?_) AllReadyH.nil
     have hr:=HR.out
     rw[if_pos (by kernel_rfl)]
     refine Go.Lib.wp_append_run _ _ _ _ _ rfl _ _ rfl rfl _ _ hr ?_
     refine hKK.out _ _ trivial (fun hHeldA => ?_)
     clear hKK KK hr
     simp only[oprn8,Act.put,List.setIfInBounds_toArray,List.set_cons_zero,List.set_cons_succ]
     refine wpAnyH_take (i:=9) (oi:=oprn9) (v := ?_) rfl (by kernel_rfl) (by kernel_rfl) (by kernel_rfl) (fun _ _ _ h=>h) (Or.inl ⟨by rfl,?_⟩) (by assumption) ?_
     rotate_left
     ·intro w' hSw
      clear hSw
      unfold oprn9
      first
      | (go_simp;done)
      | (go_simp;with_reducible rfl)
     simp only[oprn9,Act.put,List.setIfInBounds_toArray,List.set_cons_zero,List.set_cons_succ]
     refine wpAnyH_take (i:=10) (oi:=oprn10) (v := ?_) rfl (by kernel_rfl) (by kernel_rfl) (by kernel_rfl) (fun _ _ _ h=>h) (Or.inl ⟨by rfl,?_⟩) (by assumption) ?_
     rotate_left
     ·intro w' hSw
      clear hSw
      unfold oprn10
      first
      | (go_simp;done)
      | (go_simp;with_reducible rfl)
     simp only[oprn10,Act.put,List.setIfInBounds_toArray,List.set_cons_zero,List.set_cons_succ]
     refine wpAnyH_ready (rs:=[11]) (by kernel_rfl) (by simp) ?_
     refine AllReadyH.cons (o:=oprn11) rfl (fun KK hKK => ?_) AllReadyH.nil
     have sc1:=SC.out.1
     have sf1:=SC.out.2
     unfold oprn11
     go_simp
     refine hKK.out _ _ trivial (fun hHeldS => ?_)
     clear hKK KK sc1 sf1
     refine wpAnyH_done (by kernel_rfl) ?_ _
     refine NoPanic.normal ?_
     go_wp2
     go_roundw
     case rel=>exact⟨k+1,_,by omega,by go_num,RA.out⟩
     case measure=>simp[intOf];omega
    ·have lc:=E64.out
     unfold oprn6
     go_simp
     refine hKK.out _ _ trivial (fun hHeld6 => ?_)
     clear hKK KK lc
     refine wpAnyH_ready (rs:=[4,7]) (by kernel_rfl) (by simp) ?_
     refine AllReadyH.cons (o:=oprn4) rfl (fun KK hKK => ?_) (AllReadyH.cons (o:=oprn7) rfl (fun KK hKK => ?_) AllReadyH.nil)
     ·have lc:=(cell_alloc (o:=(.cells M 5)) C4.out)
      unfold oprn4
      go_simp
      refine hKK.out _ _ trivial (fun hHeld4 => ?_)
      clear hKK KK lc
      refine wpAnyH_ready (rs:=[7]) (by kernel_rfl) (by simp) ?_
      refine AllReadyH.cons (o:=oprn7) rfl (fun KK hKK => ?_) AllReadyH.nil
      unfold oprn7
      go_simp
      refine hKK.out _ _ trivial (fun hHeld7 => ?_)
      clear hKK KK
      refine wpAnyH_ready (rs:=[8]) (by kernel_rfl) (by simp) ?_
      refine AllReadyH.cons (o:=oprn8) rfl (fun KK hKK => ?_) AllReadyH.nil
      have hr:=HR.out
      rw[if_pos (by kernel_rfl)]
      refine Go.Lib.wp_append_run _ _ _ _ _ rfl _ _ rfl rfl _ _ hr ?_
      refine hKK.out _ _ trivial (fun hHeldA => ?_)
      clear hKK KK hr
      simp only[oprn8,Act.put,List.setIfInBounds_toArray,List.set_cons_zero,List.set_cons_succ]
      refine wpAnyH_take (i:=9) (oi:=oprn9) (v := ?_) rfl (by kernel_rfl) (by kernel_rfl) (by kernel_rfl) (fun _ _ _ h=>h) (Or.inl ⟨by rfl,?_⟩) (by assumption) ?_
      rotate_left
      ·intro w' hSw
       clear hSw
       unfold oprn9
       first
       | (go_simp;done)
       | (go_simp;with_reducible rfl)
      simp only[oprn9,Act.put,List.setIfInBounds_toArray,List.set_cons_zero,List.set_cons_succ]
      refine wpAnyH_take (i:=10) (oi:=oprn10) (v := ?_) rfl (by kernel_rfl) (by kernel_rfl) (by kernel_rfl) (fun _ _ _ h=>h) (Or.inl ⟨by rfl,?_⟩) (by assumption) ?_
      rotate_left
      ·intro w' hSw
       clear hSw
       unfold oprn10
       first
       | (go_simp;done)
       | (go_simp;with_reducible rfl)
      simp only[oprn10,Act.put,List.setIfInBounds_toArray,List.set_cons_zero,List.set_cons_succ]
      refine wpAnyH_ready (rs:=[11]) (by kernel_rfl) (by simp) ?_
      refine AllReadyH.cons (o:=oprn11) rfl (fun KK hKK => ?_) AllReadyH.nil
      have sc1:=SC.out.1
      have sf1:=SC.out.2
      unfold oprn11
      go_simp
      refine hKK.out _ _ trivial (fun hHeldS => ?_)
      clear hKK KK sc1 sf1
      refine wpAnyH_done (by kernel_rfl) ?_ _
      refine NoPanic.normal ?_
      go_wp2
      go_roundw
      case rel=>exact⟨k+1,_,by omega,by go_num,RA.out⟩
      case measure=>simp[intOf];omega
     ·unfold oprn7
      go_simp
      refine hKK.out _ _ trivial (fun hHeld7 => ?_)
      clear hKK KK
      refine wpAnyH_ready (rs:=[4]) (by kernel_rfl) (by simp) ?_
      refine AllReadyH.cons (o:=oprn4) rfl (fun KK hKK => ?_) AllReadyH.nil
      have lc:=(cell_alloc (o:=(.cells #[sv (zs 0)] 9)) (cell_alloc (o:=(.cells M 5)) C4.out))
      unfold oprn4
      go_simp
      refine hKK.out _ _ trivial (fun hHeld4 => ?_)
      clear hKK KK lc
      refine wpAnyH_ready (rs:=[8]) (by kernel_rfl) (by simp) ?_
      refine AllReadyH.cons (o:=oprn8) rfl (fun KK hKK => ?_) AllReadyH.nil
      have hr:=HR.out
      rw[if_pos (by kernel_rfl)]
      refine Go.Lib.wp_append_run _ _ _ _ _ rfl _ _ rfl rfl _ _ hr ?_
      refine hKK.out _ _ trivial (fun hHeldA => ?_)
      clear hKK KK hr
      simp only[oprn8,Act.put,List.setIfInBounds_toArray,List.set_cons_zero,List.set_cons_succ]
      refine wpAnyH_take (i:=9) (oi:=oprn9) (v := ?_) rfl (by kernel_rfl) (by kernel_rfl) (by kernel_rfl) (fun _ _ _ h=>h) (Or.inl ⟨by rfl,?_⟩) (by assumption) ?_
      rotate_left
      ·intro w' hSw
       clear hSw
       unfold oprn9
       first
       | (go_simp;done)
       | (go_simp;with_reducible rfl)
      simp only[oprn9,Act.put,List.setIfInBounds_toArray,List.set_cons_zero,List.set_cons_succ]
      refine wpAnyH_take (i:=10) (oi:=oprn10) (v := ?_) rfl (by kernel_rfl) (by kernel_rfl) (by kernel_rfl) (fun _ _ _ h=>h) (Or.inl ⟨by rfl,?_⟩) (by assumption) ?_
      rotate_left
      ·intro w' hSw
       clear hSw
       unfold oprn10
       first
       | (go_simp;done)
       | (go_simp;with_reducible rfl)
      simp only[oprn10,Act.put,List.setIfInBounds_toArray,List.set_cons_zero,List.set_cons_succ]
      refine wpAnyH_ready (rs:=[11]) (by kernel_rfl) (by simp) ?_
      refine AllReadyH.cons (o:=oprn11) rfl (fun KK hKK => ?_) AllReadyH.nil
      have sc1:=SC.out.1
      have sf1:=SC.out.2
      unfold oprn11
      go_simp
      refine hKK.out _ _ trivial (fun hHeldS => ?_)
      clear hKK KK sc1 sf1
      refine wpAnyH_done (by kernel_rfl) ?_ _
      refine NoPanic.normal ?_
      go_wp2
      go_roundw
      case rel=>exact⟨k+1,_,by omega,by go_num,RA.out⟩
      case measure=>simp[intOf];omega
  ·obtain rfl:k=n:=by omega
   have FF:Hid (∃G,DAt wr d G (St.init k)∧∀g,G g→w.heap.size≤g):=I.out.done h1 h2
   have BB:Hid (Below w.heap.size w wr):=I.out.below
   clear I
   go_wp2
   go_ret2
   obtain⟨G,f1,f2⟩:=FF.out
   exact⟨d,G,rfl,f1,f2,BB.out⟩
end Go.Proofs.YtdcimnmebgkmjaaGreatDoor
