/- A part of the walk. -/
import Derived.Test.YtjcppbhgjchjaaaGreatDoorZr3G39
import Derived.ProofKit
import Derived.OpenShut
import Derived.ShutString
import Derived.ChangeOld
import Derived.ChangeArms
import Derived.SizedLaws
import Derived.Deep.Slices
import Derived.Deep.Fields
set_option maxHeartbeats 8000000
set_option maxRecDepth 20000
namespace Go.Proofs.YtjcppbhgjchjaaaGreatDoor
open Go.RowKit Go.Proofs.Fd Go.Proofs.Hs Go.Proofs.Cc Go.Proofs.Hd Go.Proofs.Rt Go.Proofs.Wd
theorem zv1 (p b:Ba) (hb:b.size=504) (w:Wo) (E:Int) (hE:¬E=0)
  (PE:Hid (∀w',Below w.heap.size w w'->Cl 162 #[.string p,.string (b.extract 0 248)] w' fun e w''=>e = .returned (.tuple #[hv zh,.string ⟨#[]⟩,kz,.int .i64 E])/\Below w'.heap.size w' w'')) :
  Cl 86 #[.string p,.string b] w fun e w'=>e = .returned (.tuple #[pdz,.int .i64 E])/\Below w.heap.size w w':=by
 have g1:(b.size:Int)=504:=by omega
 obtain⟨H,hH⟩:∃H,b.extract 0 248=H:=⟨_,rfl⟩;rw[hH] at PE;unfold hv zh kz at PE;simp only at PE;go_enter Tryz.func86, Tryz.ntmps86;go_wp2_with fail;refine cM (PE.out _ ((bQ _ _).alloc (nL _) _)) ?_;rintro e w1 ⟨rfl,hb1⟩;have J:Hid (zsy w1 w.heap.size zh ⟨#[]⟩ ⟨#[]⟩ ⟨#[]⟩/\Below w.heap.size w w1):=⟨(zsy.zero w).later hb1,chain ((bQ _ _).alloc (nL _) _) hb1⟩;clear hb1 PE;generalize hgg:w.heap.size=g at *;have F0:zsy (ztt w1 g zh ⟨#[]⟩ ⟨#[]⟩ ⟨#[]⟩) g zh ⟨#[]⟩ ⟨#[]⟩ ⟨#[]⟩/\Below g w (ztt w1 g zh ⟨#[]⟩ ⟨#[]⟩ ⟨#[]⟩):=⟨J.out.1.put _ _ _ _,zsP J.out.2 (nL _) _ _ _ _⟩;have F:Hid (zsy (((ztt w1 g zh ⟨#[]⟩ ⟨#[]⟩ ⟨#[]⟩).alloc (.cells #[.int .i64 0,.int .i64 0,.int .i64 0,.int .i64 0,.string ⟨#[]⟩] 82)).alloc (.cells #[.string ⟨#[]⟩,.string ⟨#[]⟩,.string ⟨#[]⟩,.string ⟨#[]⟩,.string ⟨#[]⟩] 144)) g zh ⟨#[]⟩ ⟨#[]⟩ ⟨#[]⟩/\Below g w (((ztt w1 g zh ⟨#[]⟩ ⟨#[]⟩ ⟨#[]⟩).alloc (.cells #[.int .i64 0,.int .i64 0,.int .i64 0,.int .i64 0,.string ⟨#[]⟩] 82)).alloc (.cells #[.string ⟨#[]⟩,.string ⟨#[]⟩,.string ⟨#[]⟩,.string ⟨#[]⟩,.string ⟨#[]⟩] 144))) :=
  ⟨(F0.1.later ((bQ _ _).alloc (nL _) _)).later ((bQ _ _).alloc (nL _) _),(F0.2.alloc (Nat.le_of_lt F0.1.lt) _).alloc (by have:=F0.1.lt;simp;omega) _⟩
 clear F0;unfold ztt zh at F;obtain⟨⟨h0,h1,h2,h3,h4,h5,h6,h7⟩,z0,z1,z2,z3,z4,z5,z6,z7⟩:=zsy.cells (k:=0) (n:=0) (u:=0) (d:=0) (id:=⟨#[]⟩) J.out.1;have lG:=J.out.1.lt;have lN:¬g=w1.heap.size:=by omega
 have lN1:¬g=w1.heap.size+1:=by omega
 go_wp2;refine bodyPost_ret (v := .tuple #[pdz,.int .i64 E]) ?_ rfl ⟨rfl,by rw[hgg];exact F.out.2⟩;exact ztv _ _ g zh _ _ _ E (by kernel_rfl) (by kernel_rfl) F.out.1
def Stp (w W:Wo) (g gh gi:Nat) (x:Hp) (k0 k1 k2 k3 k4 k5:Ba):Prop:=zsy W g zh ⟨#[]⟩ ⟨#[]⟩ ⟨#[]⟩/\zsd W gh x/\Six W gi k0 k1 k2 k3 k4 k5/\Below g w W/\g < gi/\gh < gi/\g < gh /\ 0 < g
theorem Stp.later {w W W':Wo} {g gh gi:Nat} {x:Hp} {k0 k1 k2 k3 k4 k5:Ba} (h:Stp w W g gh gi x k0 k1 k2 k3 k4 k5) (hg:g<=W.heap.size) (hb:Bw W W'):Stp w W' g gh gi x k0 k1 k2 k3 k4 k5 :=
 ⟨h.1.later hb,h.2.1.later hb,h.2.2.1.later hb,h.2.2.2.1.trans (hb.mono hg),h.2.2.2.2⟩
theorem Stp.opened {w W W':Wo} {g gh gi:Nat} {x:Hp} {k0 k1 k2 k3 k4 k5 R:Ba} (h:Stp w W g gh gi x k0 k1 k2 k3 k4 k5) (hs:Six W' gi k0 k1 k2 k3 k4 R) (hb:Below gi W W'):Stp w W' g gh gi x k0 k1 k2 k3 k4 R :=
 ⟨h.1.above hb h.2.2.2.2.1,h.2.1.above hb h.2.2.2.2.2.1,hs,h.2.2.2.1.trans (hb.mono (Nat.le_of_lt h.2.2.2.2.1)),h.2.2.2.2⟩
theorem Stp.opened' {w W W':Wo} {g gh gi:Nat} {x:Hp} {k0 k1 k2 k3 k4 k5 y0 y1 y2 y3 y4 y5:Ba} (h:Stp w W g gh gi x k0 k1 k2 k3 k4 k5) (hs:Six W' gi y0 y1 y2 y3 y4 y5) (hb:Below gi W W'):Stp w W' g gh gi x y0 y1 y2 y3 y4 y5 :=
 ⟨h.1.above hb h.2.2.2.2.1,h.2.1.above hb h.2.2.2.2.2.1,hs,h.2.2.2.1.trans (hb.mono (Nat.le_of_lt h.2.2.2.2.1)),h.2.2.2.2⟩
theorem Five.above {g:Nat} {w w':Wo} {b:Nat} {k0 k1 k2 k3 k4:Ba} (h:Five w b k0 k1 k2 k3 k4) (hb:Below g w w') (hlt:b < g):Five w' b k0 k1 k2 k3 k4:=by
 obtain⟨f,h0,h1,h2,h3,h4⟩:=h;have e:∀j,w'.cell? ⟨b,j,none⟩=w.cell? ⟨b,j,none⟩:=fun j=>hb.cell hlt
 have e2:∀j,w'.frozen? ⟨b,j,none⟩=w.frozen? ⟨b,j,none⟩:=fun j=>hb.frozen hlt
 exact⟨fun j=>by rw[e2,f],by rw[e,h0],by rw[e,h1],by rw[e,h2],by rw[e,h3],by rw[e,h4]⟩
theorem Stp.kh {w W:Wo} {g gh gi:Nat} {x:Hp} {k0 k1 k2 k3 k4 k5:Ba} (h:Stp w W g gh gi x k0 k1 k2 k3 k4 k5) (hK:Kh w):Kh W:=Kh.above hK h.2.2.2.2.2.2.2 h.2.2.2.1
theorem Stp.fin {w W:Wo} {g gh gi:Nat} {x:Hp} {k0 k1 k2 k3 k4 k5:Ba} (h:Stp w W g gh gi x k0 k1 k2 k3 k4 k5) (y:Hp) (n t s:Ba):zsy (ztt W g y n t s) g y n t s/\Below g w (ztt W g y n t s) :=
 ⟨h.1.put y n t s,zsP h.2.2.2.1 (nL _) y n t s⟩
def oph0:Oper:={ dst:=some 29,op := .load 144 (.tmp 8),type := 144, pos := "pack.go:36", after:=#[],guard:=none }
def oph1:Oper:={ dst:=some 30,op := .move (.tmp 1),type := 9, pos := "pack.go:36", after:=#[],guard:=none }
def oph2:Oper:={ dst:=some 31,op := .slice 9 (.tmp 30) (some (.const (Go.Value.int Go.IntKind.i64 248))) none none,type := 9, pos := "pack.go:36", after:=#[eD 1],guard:=none }
def oph3:Oper:={ dst:=some 32,op := .build 211 #[(0,Go.Operand.tmp 29),(1,Go.Operand.tmp 31)],type := 211, pos := "pack.go:36", after:=#[eD 0,eD 2],guard:=none }
def oph4:Oper:={ dst:=some 10,op := .alloc 211, type:=0,pos := "pack.go:36", after:=#[],guard:=none }
def oph5:Oper:={ dst:=none,op := .store 211 (.tmp 10) (.tmp 32),type:=0,pos := "pack.go:36", after:=#[eD 4,eD 3,eP 0,eP 1,eP 2,eP 3,eP 4],guard:=none }
theorem ztw (p b:Ba) (hb:b.size=504) (w:Wo) (hK:Hid (Kh w)) (x:Hp) (n s R UT:Ba) (UE:Int) (V:Array Value) (zn:n.size<=248) (zR:R.size=256)
  (V1:Hid (x.k=1->V=#[pdv x (n++R) (hdk s zqe 16) ⟨#[]⟩,.int .i64 0])) (V2:Hid (x.k≠1->UE≠0->V=#[pdz,.int .i64 UE])) (V3:Hid (x.k≠1->UE=0->V=#[pdv x ⟨#[]⟩ (hdk s zqe 16) UT,.int .i64 0]))
  (PE:Hid (∀w',Kh w'->Cl 162 #[.string p,.string (b.extract 0 248)] w' fun e w''=>e = .returned (.tuple #[hv x,.string n,kv s,.int .i64 0])/\Below w'.heap.size w' w''))
  (OP:Hid (∀w',Kh w'->Cl 243 #[.string (hdk s zpa 32),.string (b.extract 248 504)] w' fun e w''=>e = .returned (.tuple #[.string R,.int .i64 0])/\Below w'.heap.size w' w''))
  (UW:Hid (∀w',Kh w'->Cl 244 #[.string (hdk s zpa 32),.string (b.extract 248 504)] w' fun e w''=>e = .returned (.tuple #[.string UT,.int .i64 UE])/\Below w'.heap.size w' w'')) :
  Cl 86 #[.string p,.string b] w fun e w'=>e = .returned (.tuple V)/\Below w.heap.size w w':=by
 have g1:(b.size:Int)=504:=by omega
 have AD:∀w,(Op.stringOp .add n R).run Tryz.prog w = .ok (.string (n++R)) w:=fun w=>run_string_add_sum _ _ _ (by omega)
 obtain⟨H,hH⟩:∃H,b.extract 0 248=H:=⟨_,rfl⟩;obtain⟨B,hB⟩:∃B,b.extract 248 504=B:=⟨_,rfl⟩;rw[hH] at PE;rw[hB] at OP UW;have e5:b.extract 248 b.size=B:=by rw[hb];exact hB
 generalize n++R=NR at *;obtain⟨xk,xn,xu,xd,xid⟩:=x;simp only at V1 V2 V3;unfold hv kv at PE;generalize hdk s zo9 32=k0 at *;generalize hdk s zr8 32=k1 at *;generalize hdk s zpa 32=k2 at *;generalize bld s=k3 at *;generalize hdk s zqe 16=k4 at *;simp only at PE;have OC:Hid (∀(g:Nat) (w:Wo),Six w g k0 k1 k2 k3 k4 B->Kh w->Cl 163 #[.pointer (some ⟨g,0,none⟩)] w fun e w'=>e = .returned (.tuple #[])/\Six w' g k0 k1 k2 k3 k4 R/\Below g w w'):=fun g w h1 h2=>zvd g k0 k1 k2 k3 k4 B R w h1 h2 OP
 have TC:Hid (∀(g:Nat) (w:Wo),Six w g k0 k1 k2 k3 k4 B->Kh w->Cl 164 #[.pointer (some ⟨g,0,none⟩)] w fun e w'=>e = .returned (.tuple #[.string UT,.int .i64 UE])/\Below w.heap.size w w'):=fun g w h1 h2=>zve g k0 k1 k2 k3 k4 B UT UE w h1 h2 UW
 clear OP UW zn zR;go_enter Tryz.func86, Tryz.ntmps86;go_wp2_with fail;refine cM (PE.out _ (hK.out.alloc _)) ?_;rintro e w1 ⟨rfl,hb1⟩;have J:Hid (zsy w1 w.heap.size zh ⟨#[]⟩ ⟨#[]⟩ ⟨#[]⟩/\Below w.heap.size w w1/\w.heap.size < w1.heap.size /\ 0 < w.heap.size):=⟨(zsy.zero w).later hb1,chain ((bQ _ _).alloc (nL _) _) hb1,by have:=hb1.size;simp at this;omega,hK.out.1⟩;clear hb1 PE;generalize hgg:w.heap.size=g at *;go_wp2_with fail;obtain⟨A,hA⟩:∃A,(w1.alloc (.cells #[.int .i64 xk,.int .i64 xn,.int .i64 xu,.int .i64 xd,.string xid] 82)).alloc (.cells #[.string k0,.string k1,.string k2,.string k3,.string k4] 144)=A:=⟨_,rfl⟩;have J2:Hid (zsy A g zh ⟨#[]⟩ ⟨#[]⟩ ⟨#[]⟩/\zsd A w1.heap.size ⟨xk,xn,xu,xd,xid⟩/\Five A (w1.heap.size+1) k0 k1 k2 k3 k4/\Below g w A/\g < w1.heap.size/\A.heap.size=w1.heap.size+2 /\ 0 < g):=by
  rw[<-hA];refine⟨(J.out.1.later ((bQ _ _).alloc (nL _) _)).later ((bQ _ _).alloc (nL _) _),(zsd.fresh _ _ _ _ _ _ _).later ((bQ _ _).alloc (nL _) _),?_,(J.out.2.1.alloc (by have:=J.out.2.1.size;omega) _).alloc (by have:=J.out.2.1.size;simp;omega) _,J.out.2.2.1,by simp[go_sem],J.out.2.2.2⟩;have:=Five.new (w1.alloc (.cells #[.int .i64 xk,.int .i64 xn,.int .i64 xu,.int .i64 xd,.string xid] 82)) 144 k0 k1 k2 k3 k4
  simpa[go_sem] using this
 rw[hA];clear hA J;generalize w1.heap.size=gh at *;obtain⟨D0,hD0⟩:∃D,A.drew=D:=⟨_,rfl⟩;have J3:Hid (zsy D0 g zh ⟨#[]⟩ ⟨#[]⟩ ⟨#[]⟩/\zsd D0 gh ⟨xk,xn,xu,xd,xid⟩/\Five D0 (gh+1) k0 k1 k2 k3 k4/\Below g w D0/\g < gh/\D0.heap.size=gh+2 /\ 0 < g):=by
  have hd:Below A.heap.size A D0:=by rw[<-hD0];exact (bQ _ _).drew
  have hz:D0.heap.size=A.heap.size:=by rw[<-hD0];simp[go_sem]
  exact⟨J2.out.1.later hd,J2.out.2.1.later hd,J2.out.2.2.1.later hd,J2.out.2.2.2.1.trans (hd.mono (by have:=J2.out.2.2.2.2;omega)),J2.out.2.2.2.2.1,by rw[hz];exact J2.out.2.2.2.2.2.1,J2.out.2.2.2.2.2.2⟩
 have HS0:Five A.drew (gh+1) k0 k1 k2 k3 k4:=by rw[hD0];exact J3.out.2.2.1
 clear J2;refine wp_region_noPanic ?_;refine wp_region_held_drew (S:=fun w'=>Five w' (gh+1) k0 k1 k2 k3 k4) (by kernel_rfl) (HS0) (fun hHeld => ?_);refine wT 0 oph0 ?_ ?_ ?_;rotate_left
 ·intro w' hSw;obtain⟨-,p0,p1,p2,p3,p4⟩:=hSw;unfold oph0;first|(go_simp;done)|(go_simp;with_reducible rfl)
 simp only[oph0,Act.put,wA,wB,wC];refine wT 1 oph1 ?_ ?_ ?_;rotate_left
 ·intro w' hSw;clear hSw;unfold oph1;first|(go_simp;done)|(go_simp;with_reducible rfl)
 simp only[oph1,Act.put,wA,wB,wC];refine wT 2 oph2 ?_ ?_ ?_;rotate_left
 ·intro w' hSw;clear hSw;unfold oph2;first|(go_simp;done)|(go_simp;with_reducible rfl)
 simp only[oph2,Act.put,wA,wB,wC];refine wT 3 oph3 ?_ ?_ ?_;rotate_left
 ·intro w' hSw;clear hSw;unfold oph3;first|(go_simp;done)|(go_simp;with_reducible rfl)
 simp only[oph3,Act.put,wA,wB,wC];rw[hD0] at hHeld;rw[hD0];clear hD0 HS0;refine wpAnyH_ready (rs:=[4]) (by kernel_rfl) (by simp) ?_;refine AllReadyH.cons (o:=oph4) rfl (fun KK hKK => ?_) AllReadyH.nil;unfold oph4;go_simp;have J4:Hid (Stp w (D0.alloc (.cells #[.string ⟨#[]⟩,.string ⟨#[]⟩,.string ⟨#[]⟩,.string ⟨#[]⟩,.string ⟨#[]⟩,.string ⟨#[]⟩] 211)) g gh D0.heap.size ⟨xk,xn,xu,xd,xid⟩ ⟨#[]⟩ ⟨#[]⟩ ⟨#[]⟩ ⟨#[]⟩ ⟨#[]⟩ ⟨#[]⟩/\Five (D0.alloc (.cells #[.string ⟨#[]⟩,.string ⟨#[]⟩,.string ⟨#[]⟩,.string ⟨#[]⟩,.string ⟨#[]⟩,.string ⟨#[]⟩] 211)) (gh+1) k0 k1 k2 k3 k4/\gh+1 < D0.heap.size):=by
  have hb:Below D0.heap.size D0 (D0.alloc (.cells #[.string ⟨#[]⟩,.string ⟨#[]⟩,.string ⟨#[]⟩,.string ⟨#[]⟩,.string ⟨#[]⟩,.string ⟨#[]⟩] 211)):=(bQ _ _).alloc (nL _) _;obtain⟨j1,j2,j3,j4,j5,j6,j7⟩:=J3.out;exact⟨⟨j1.later hb,j2.later hb,Six.new _ _ _ _ _ _ _ _,j4.trans (hb.mono (by omega)),by omega,by omega,j5,j7⟩,j3.later hb,by omega⟩
 refine hKK.out _ _ J4.out.2.1 (fun hHeldA => ?_);clear hKK KK hHeld;obtain⟨U,hU⟩:∃U,D0.alloc (.cells #[.string ⟨#[]⟩,.string ⟨#[]⟩,.string ⟨#[]⟩,.string ⟨#[]⟩,.string ⟨#[]⟩,.string ⟨#[]⟩] 211)=U:=⟨_,rfl⟩;obtain⟨gi,hgi⟩:∃gi,D0.heap.size=gi:=⟨_,rfl⟩;rw[hU,hgi] at J4;rw[hU] at hHeldA;rw[hU,hgi];clear hU hgi J3;obtain⟨fz,h0,h1,h2,h3,h4,h5⟩:=J4.out.1.2.2.1;have z0:=fz 0;have z1:=fz 1;have z2:=fz 2;have z3:=fz 3;have z4:=fz 4;have z5:=fz 5;clear fz;have PF:Hid (_/\_):=And.intro (J4.out.1.2.2.1.whole k0 k1 k2 k3 k4 B) (zts (bQ gi U) (nL gi) (.string k0) (.string k1) (.string k2) (.string k3) (.string k4) (.string B));refine wpAnyH_ready (rs:=[5]) (by kernel_rfl) (by simp) ?_;refine AllReadyH.cons (o:=oph5) rfl (fun KK hKK => ?_) AllReadyH.nil;unfold oph5;go_simp;refine hKK.out _ _ (Five.above J4.out.2.1 PF.out.2 J4.out.2.2) (fun hHeldB => ?_);clear hKK KK hHeldA h0 h1 h2 h3 h4 h5 z0 z1 z2 z3 z4 z5;obtain⟨U2,hU2⟩:∃U2,((((((U.setCell ⟨gi,0,none⟩ (.string k0)).setCell ⟨gi,1,none⟩ (.string k1)).setCell ⟨gi,2,none⟩ (.string k2)).setCell ⟨gi,3,none⟩ (.string k3)).setCell ⟨gi,4,none⟩ (.string k4)).setCell ⟨gi,5,none⟩ (.string B))=U2:=⟨_,rfl⟩;rw[hU2] at PF hHeldB;rw[hU2];clear hU2;refine wpAnyH_done (by kernel_rfl) ?_ _;refine NoPanic.normal ?_;clear hHeldB;have ST:Hid (Stp w U2 g gh gi ⟨xk,xn,xu,xd,xid⟩ k0 k1 k2 k3 k4 B):=J4.out.1.opened' PF.out.1 PF.out.2;clear J4 PF;obtain⟨h0,h1,h2',h3,h4⟩:=ST.out.2.1.cells;obtain⟨-,c0,c1,c2,c3,c4,c5⟩:=ST.out.2.2.1
 by_cases hx:xk=1
 ·subst hx
  have hV:=V1.out rfl;go_wp2_with fail;refine cM (OC.out _ _ ST.out.2.2.1 (ST.out.kh hK.out)) ?_;rintro e W2 ⟨rfl,h2,hb2⟩;have S2:Hid (Stp w W2 g gh gi ⟨1,xn,xu,xd,xid⟩ k0 k1 k2 k3 k4 R):=ST.out.opened h2 hb2;clear h2 hb2 ST OC TC h0 h1 h2' h3 h4 c0 c1 c2 c3 c4 c5;obtain⟨h0,h1,h2,h3,h4⟩:=S2.out.2.1.cells;obtain⟨-,c0,c1,c2,c3,c4,c5⟩:=S2.out.2.2.1;obtain⟨⟨p0,p1,p2,p3,p4,p5,p6,p7⟩,z0,z1,z2,z3,z4,z5,z6,z7⟩:=zsy.cells (k:=0) (n:=0) (u:=0) (d:=0) (id:=⟨#[]⟩) S2.out.1;have F:Hid (_/\_):=S2.out.fin ⟨1,xn,xu,xd,xid⟩ NR k4 ⟨#[]⟩;unfold ztt at F;simp only at F;go_wp2;refine bodyPost_ret (v := .tuple V) ?_ rfl ⟨rfl,by rw[hgg];exact F.out.2⟩;rw[hV];exact ztv _ _ g ⟨1,xn,xu,xd,xid⟩ _ _ _ 0 (by kernel_rfl) (by kernel_rfl) F.out.1
 ·have gx:(xk == 1)=false:=by rw[beq_eq_false_iff_ne];exact hx
  go_wp2_with fail;refine cM (TC.out _ _ ST.out.2.2.1 (ST.out.kh hK.out)) ?_;rintro e W2 ⟨rfl,hb2⟩;have S2:Hid (Stp w W2 g gh gi ⟨xk,xn,xu,xd,xid⟩ k0 k1 k2 k3 k4 B):=ST.out.later (Nat.le_of_lt ST.out.1.lt) hb2;clear hb2 ST OC TC h0 h1 h2' h3 h4 c0 c1 c2 c3 c4 c5;obtain⟨h0,h1,h2,h3,h4⟩:=S2.out.2.1.cells;obtain⟨-,c0,c1,c2,c3,c4,c5⟩:=S2.out.2.2.1;obtain⟨⟨p0,p1,p2,p3,p4,p5,p6,p7⟩,z0,z1,z2,z3,z4,z5,z6,z7⟩:=zsy.cells (k:=0) (n:=0) (u:=0) (d:=0) (id:=⟨#[]⟩) S2.out.1;by_cases hU:UE=0
  ·subst hU
   have hV:=V3.out hx rfl;have F:Hid (_/\_):=S2.out.fin ⟨xk,xn,xu,xd,xid⟩ ⟨#[]⟩ k4 UT;unfold ztt at F;simp only at F;go_wp2;refine bodyPost_ret (v := .tuple V) ?_ rfl ⟨rfl,by rw[hgg];exact F.out.2⟩;rw[hV];exact ztv _ _ g ⟨xk,xn,xu,xd,xid⟩ _ _ _ 0 (by kernel_rfl) (by kernel_rfl) F.out.1
  ·have hV:=V2.out hx hU
   have F:Hid (_/\_):=S2.out.fin zh ⟨#[]⟩ ⟨#[]⟩ ⟨#[]⟩;unfold ztt zh at F;simp only at F;go_wp2;refine bodyPost_ret (v := .tuple V) ?_ rfl ⟨rfl,by rw[hgg];exact F.out.2⟩;rw[hV];exact ztv _ _ g zh _ _ _ UE (by kernel_rfl) (by kernel_rfl) F.out.1
theorem zv2 (CL:Hid zxb) (CO:Hid zw6) (CU:Hid zuU):zc0:=fun p b w zp _ hK=>by
 by_cases hb:b.size=504
 ·have zH:(b.extract 0 248).size=248:=by rw[ByteArray.size_extract];omega
  have zB:(b.extract 248 504).size=256:=by rw[ByteArray.size_extract];omega
  have dB:(b.extract 248 504).data.toList=b.data.toList.drop 248:=by
   rw[ByteArray.data_extract,Array.toList_extract,List.extract_eq_take_drop,List.take_of_length_le];rw[List.length_drop,zcg];omega
  have PE:=fun w' (h:Kh w')=>CL.out p (b.extract 0 248) w' zp (by show (b.extract 0 248).size<=_;omega) h
  have eV:ppV p b=(match hpl p (b.extract 0 248) with
   | .error e=>#[pdz,.int .i64 e]
   | .ok (x,n,s)=>if x.k=1 then #[pdv x ⟨(n.data.toList++zb4 (bdy s).data.toList (b.data.toList.drop 248)).toArray⟩ (rtg s) ⟨#[]⟩,.int .i64 0]
    else (match zgK (zb4 (bdy s).data.toList (b.data.toList.drop 248)) with
     | none=>#[pdz,.int .i64 90]
     | some t=>#[pdv x ⟨#[]⟩ (rtg s) ⟨t.toArray⟩,.int .i64 0])):=by unfold ppV;rw[if_pos hb];rfl
  rw[zne] at PE;rw[eV];cases hh:hpl p (b.extract 0 248) with
  | error e =>
   rw[hh] at PE;exact zv1 p b hb w e (zvf hh) (fun w' hw=>PE w' (hK.out.later hw))
  | ok v =>
   obtain⟨x,n,s⟩:=v;rw[hh] at PE;simp only;have OP:=fun w' (h:Kh w')=>CO.out (hdk s zpa 32) (b.extract 248 504) w' (by rw[zkL];show (32:Nat)+64<=_;decide) (by show (b.extract 248 504).size<=_;omega) h
   have UW:=fun w' (h:Kh w')=>CU.out (hdk s zpa 32) (b.extract 248 504) w' (by rw[zkL];show (32:Nat)+64<=_;decide) (by show (b.extract 248 504).size<=_;omega) h
   rw[zwc _ _ (by omega) (by omega)] at OP;have zR:(⟨(zb4 (hdk s zpa 32).data.toList (b.extract 248 504).data.toList).toArray⟩:Ba).size=256:=by
    rw[zko,zhZ _ _ (by rw[zcg];omega),zcg,zB]
   have eR:n++(⟨(zb4 (hdk s zpa 32).data.toList (b.extract 248 504).data.toList).toArray⟩:Ba)=⟨(n.data.toList++zb4 (bdy s).data.toList (b.data.toList.drop 248)).toArray⟩:=by
    rw[<-dB];apply ByteArray.ext;simp[bdy]
   cases hT:zgK (zb4 (bdy s).data.toList (b.data.toList.drop 248)) with
   | none =>
    rw[zt3 _ _ (by omega) (by omega) (by rw[dB];exact hT)] at UW;refine ztw p b hb w hK x n s _ _ _ _ (zs1 hh) zR (fun hx => ?_) (fun hx _ => ?_) (fun _ h=>absurd h (by decide)) PE OP UW
    ·rw[if_pos hx,eR];rfl
    ·rw[if_neg hx]
   | some t =>
    rw[zt2 _ _ t (by omega) (by omega) (by rw[dB];exact hT)] at UW;refine ztw p b hb w hK x n s _ _ _ _ (zs1 hh) zR (fun hx => ?_) (fun _ h=>absurd rfl h) (fun hx _ => ?_) PE OP UW
    ·rw[if_pos hx,eR];rfl
    ·rw[if_neg hx];rfl
 ·have eV:ppV p b=#[pdz,.int .i64 3]:=by unfold ppV;rw[if_neg hb]
  rw[eV];exact zuq p b hb w
theorem zjp {l:List By} (h:∀x∈l,x.length=16) (hl:l.length<=10000):Sto.Gd (0,[],l) :=
 ⟨by show (0:Nat)<=_;decide,fun _=>rfl,fun t ht=>h t (by simpa using ht),by show 0+l.length<=_;omega⟩
abbrev c0:Ct:=⟨0,0,0,0,0,0⟩
theorem zdM (n d:Nat) (hn:n < 10) (hd:d<=4096):(zeG n d).size<=140737488355328:=by
 obtain⟨X,T,S,h,-⟩:=zrY n d hn hd;omega
theorem zfz (CM:Hid zjf) (CL:Hid zc0) (w:Wo) (K:Hid (Kh w)) :
  Cl 8 #[] w fun e w'=>e = .returned (.bool true)/\Bw w w':=by
 obtain⟨key,hkey⟩:∃k,pv zap 0=k:=⟨_,rfl⟩;have zk:key.size=32:=by rw[<-hkey];exact zbe _ _
 obtain⟨PK,hPK⟩:∃P,zeG 1 3=P:=⟨_,rfl⟩;have zP:PK.size<=140737488355328:=by rw[<-hPK];exact zdM 1 3 (by decide) (by decide)
 obtain⟨X,zX,TA⟩:=zjk (n:=20) (pool:=5) (l:=[]) (t:=Go.Proofs.Wh.St.init) (w:=[]) (c:=c0) 1 3 (by decide) (by decide) (by decide) (by decide) (by simp) (by simp) (by decide) (by decide);have TB:=zjl (n:=20) (pool:=5) (l:=[TG 1]) (t:=⟨4,1,[]⟩) (w:=[]) (c:=⟨1,0,0,0,0,0⟩) 1 3 (by decide) (by decide) (by decide) (by decide) (by simp);rw[hkey,hPK] at TA TB;obtain⟨g16,hg⟩:∃g:∀x∈[TG 1],x.length=16,True:=⟨fun x hx=>by rw[List.mem_singleton] at hx;rw[hx];exact zgs 1,trivial⟩;obtain⟨n0,hn0⟩:∃n,Nu 20 5 [] Go.Proofs.Wh.St.init [] c0=n:=⟨_,rfl⟩;obtain⟨n1,hn1⟩:∃n,Nu 20 5 [TG 1] ⟨0,1,[⟨4,1,1⟩]⟩ [(1,(7,X))] ⟨1,0,0,0,0,0⟩=n:=⟨_,rfl⟩;obtain⟨n2,hn2⟩:∃n,Nu 20 5 [TG 1] ⟨3,1,[⟨4,1,1⟩]⟩ [(1,(7,X))] ⟨1,0,0,0,0,0⟩=n:=⟨_,rfl⟩;obtain⟨n3,hn3⟩:∃n,Nu 20 5 [TG 1] ⟨4,1,[]⟩ [] ⟨1,0,0,0,0,0⟩=n:=⟨_,rfl⟩;obtain⟨n4,hn4⟩:∃n,Nu 20 5 [TG 1] ⟨4,1,[]⟩ [] ⟨1,0,0,0,1,0⟩=n:=⟨_,rfl⟩;have b0:Nb n0:=by rw[<-hn0];exact zjo (by decide) (by decide) (by decide) (by decide) (fun x hx=>by cases hx) (zjp (fun x hx=>by cases hx) (by decide))
 have b1:Nb n1:=by rw[<-hn1];exact zjo (by decide) (by show (1:Nat)<=4096;omega) (by decide) (by show (1:Nat)<=900000;omega) (fun x hx=>by rw[List.mem_singleton] at hx;subst hx;exact nL _) (zjp g16 (by show (1:Nat)<=10000;omega))
 have b2:Nb n2:=by rw[<-hn2];exact zjo (by decide) (by show (1:Nat)<=4096;omega) (by decide) (by show (1:Nat)<=900000;omega) (fun x hx=>by rw[List.mem_singleton] at hx;subst hx;exact nL _) (zjp g16 (by show (1:Nat)<=10000;omega))
 have b3:Nb n3:=by rw[<-hn3];exact zjo (by decide) (by decide) (by decide) (by show (1:Nat)<=900000;omega) (fun x hx=>by cases hx) (zjp g16 (by show (1:Nat)<=10000;omega))
 have i1:Ni n1:=by rw[<-hn1];exact⟨List.Perm.refl _,List.pairwise_singleton _ _⟩
 have i2:Ni n2:=by rw[<-hn2];exact⟨List.Perm.refl _,List.pairwise_singleton _ _⟩
 have s0:nwX key 5 (Go.Proofs.Dk.St.init 20)=((0,Ud 20 []),some n0):=by rw[<-hn0];exact zgr key zk 5 20 (by decide) (by decide) (by decide)
 have s1:n0.takeP key PK=(0,n1):=by rw[<-hn0,<-hn1,TA];rfl
 have s2:n1.tickE 3=0/\n1.tickV 3=[]/\n1.tickS 3=n2:=by rw[<-hn1,<-hn2];exact⟨rfl,rfl,rfl⟩
 have s3:n2.tickE 4=0/\n2.tickV 4=[(7,X)]/\n2.tickS 4=n3:=by rw[<-hn2,<-hn3];exact⟨rfl,rfl,rfl⟩
 have s4:n3.takeP key PK=(170,n4):=by rw[<-hn3,<-hn4];exact TB
 have s5:ctv n4.c = .agg #[.int .i64 1,.int .i64 0,.int .i64 0,.int .i64 0,.int .i64 1,.int .i64 0]:=by rw[<-hn4];rfl
 clear hn0 hn1 hn2 hn3 hn4 TA TB hg g16;have ND:Hid _:=zp1 (w:=w) (W:=w) (bQ _ _) 20 (by decide) (by decide);have PV:Hid (∀w,Kh w->Cl 13 #[.int .i64 0] w fun e w'=>e = .returned (.string key)/\Bw w w'):=fun w h=>by rw[<-hkey];exact zaZ 0 (by decide) w h
 have MK:Hid (∀w,Kh w->Cl 25 #[.int .i64 1,.int .i64 3] w fun e w'=>e = .returned (.string PK)/\Bw w w'):=fun w h=>by rw[<-hPK];exact zc1 CM 1 3 (by decide) w h
 have NW:Hid (∀p lab W,Do w p (Go.Proofs.Dk.St.init 20) lab W->Cl 18 #[.string key,.pointer (some ⟨p,0,none⟩),.int .i64 5] W fun e w'=>∃m,e = .returned (.tuple #[.pointer (some ⟨m,0,none⟩),.int .i64 0])/\∃lab',No w p m key n0 lab' w'):=fun p lab W h=>(zog key 5 (by decide) (by decide) K h s0).mono fun e w' ⟨m,he,lab',h,_⟩=>⟨m,he,lab',h⟩
 have T1:Hid (∀p m lab W,No w p m key n0 lab W->Cl 24 #[.pointer (some ⟨m,0,none⟩),.string PK] W fun e w'=>e = .returned (.int .i64 0)/\∃lab',No w p m key n1 lab' w'):=fun p m lab W h=>by
  have:=zgt CL zk PK zP b0 K h;rw[s1] at this;exact this.mono fun e w' ⟨he,lab',h,_⟩=>⟨he,lab',h⟩
 have K1:Hid (∀p m lab W,No w p m key n1 lab W->Cl 23 #[.pointer (some ⟨m,0,none⟩),.int .i64 3] W fun e w'=>∃da dc,e = .returned (.tuple #[.slice da 0 dc,.int .i64 0])/\∃lab',No w p m key n2 lab' w'):=fun p m lab W h=>by
  have:=zjn 3 i1 b1 h;rw[s2.1,s2.2.1,s2.2.2] at this;refine this.mono ?_;rintro e w' ⟨da,dn,dc,he,rfl,-,lab',h,-⟩;exact⟨da,dc,he,lab',h⟩
 have K2:Hid (∀p m lab W,No w p m key n2 lab W->Cl 23 #[.pointer (some ⟨m,0,none⟩),.int .i64 4] W fun e w'=>∃g dc,e = .returned (.tuple #[.slice (some ⟨g,0,none⟩) 1 dc,.int .i64 0])/\w'.cell? ⟨g,0,none⟩=some (.int .i64 7)/\w'.cell? ⟨g,1,none⟩=some (.string X)/\∃lab',No w p m key n3 lab' w'):=fun p m lab W h=>by
  have:=zjn 4 i2 b2 h;rw[s3.1,s3.2.1,s3.2.2] at this;refine this.mono ?_;rintro e w' ⟨da,dn,dc,he,rfl,ho,lab',h,-⟩;obtain⟨g,rfl,c1,c2⟩:=zlF ho 0 (by simp);exact⟨g,dc,he,c1,c2,lab',h⟩
 have T2:Hid (∀p m lab W,No w p m key n3 lab W->Cl 24 #[.pointer (some ⟨m,0,none⟩),.string PK] W fun e w'=>e = .returned (.int .i64 170)/\∃lab',No w p m key n4 lab' w'):=fun p m lab W h=>by
  have:=zgt CL zk PK zP b3 K h;rw[s4] at this;exact this.mono fun e w' ⟨he,lab',h,_⟩=>⟨he,lab',h⟩
 have CT:Hid (∀p m lab W,No w p m key n4 lab W->Cl 16 #[.pointer (some ⟨m,0,none⟩)] W fun e w'=>e = .returned (.agg #[.int .i64 1,.int .i64 0,.int .i64 0,.int .i64 0,.int .i64 1,.int .i64 0])/\Bw W w'):=fun p m lab W h=>by
  have:=zlG h;rw[s5] at this;exact this
 have zX':((X.size:Nat):Int)=504:=by omega
 clear hkey hPK zP zX zk CM CL s0 s1 s2 s3 s4 s5 b0 b1 b2 b3 i1 i2;go_enter Tryz.func8, Tryz.ntmps8;go_wp2_with fail;refine cM ND.out ?_;rintro e w1 ⟨p,rfl,d1,hb1⟩;have D1:Hid (Do w p (Go.Proofs.Dk.St.init 20) (relab (fun _=>9) w.heap.size 0) w1):=d1;clear d1 hb1 ND;go_wp2_with fail;refine cM (PV.out _ (K.out.later D1.out.below)) ?_;rintro e w2 ⟨rfl,hb2⟩;have D2:Hid (Do w p (Go.Proofs.Dk.St.init 20) (relab (fun _=>9) w.heap.size 0) w2):=D1.out.later hb2;clear hb2 PV D1;go_wp2_with fail;refine cM (NW.out _ _ _ D2.out) ?_;rintro e w3 ⟨m,rfl,lab3,h3⟩;have N3:Hid (No w p m key n0 lab3 w3):=h3;clear h3 NW D2;go_wp2_with fail;refine cM (MK.out _ (K.out.later N3.out.below)) ?_;rintro e w4 ⟨rfl,hb⟩;have N4:Hid (No w p m key n0 lab3 w4):=N3.out.later hb;clear hb N3;go_wp2_with fail;refine cM (T1.out _ _ _ _ N4.out) ?_;rintro e w5 ⟨rfl,lab5,h5⟩;have N5:Hid (No w p m key n1 lab5 w5):=h5;clear h5 N4 T1;go_wp2_with fail;refine cM (K1.out _ _ _ _ N5.out) ?_;rintro e w6 ⟨da,dc,rfl,lab6,h6⟩;have N6:Hid (No w p m key n2 lab6 w6):=h6;clear h6 N5 K1;go_wp2_with fail;refine cM (K2.out _ _ _ _ N6.out) ?_;rintro e w7 ⟨g,dc2,rfl,c1,c2,lab7,h7⟩;have N7:Hid (No w p m key n3 lab7 w7):=h7;clear h7 N6 K2;go_wp2_with fail;refine cM (MK.out _ (K.out.later N7.out.below)) ?_;rintro e w8 ⟨rfl,hb⟩;have N8:Hid (No w p m key n3 lab7 w8):=N7.out.later hb;clear hb N7 MK c1 c2;go_wp2_with fail
 refine cM (T2.out _ _ _ _ N8.out) ?_;rintro e w9 ⟨rfl,lab9,h9⟩;have N9:Hid (No w p m key n4 lab9 w9):=h9;clear h9 N8 T2;go_wp2_with fail;refine cM (CT.out _ _ _ _ N9.out) ?_;rintro e w10 ⟨rfl,hb⟩;have FF:Hid (Bw w w10):=N9.out.below.trans (hb.mono N9.out.below.size);clear hb N9 CT;go_wp2;go_ret;exact⟨rfl,FF.out⟩
theorem zeH (x:Int) (N:Nat) (h0:0 < N) (h1:N<=1000) :
  ∃m:Nat,m < N/\∀w,Cl 22 #[.int .i64 x,.int .i64 (N:Int)] w fun e w'=>e = .returned (.int .i64 (m:Int))/\w'=w:=by
 have hN:(0:Int) < (N:Int):=by omega
 have r1:=Int.tmod_lt_of_pos x hN;have r2:=Int.lt_tmod_of_pos x hN;obtain⟨r,hr⟩:∃r,Int.tmod x (N:Int)=r:=⟨_,rfl⟩;rw[hr] at r1 r2;have s1:=Int.tmod_lt_of_pos (r+(N:Int)) hN;have s2:=Int.tmod_nonneg (N:Int) (show 0<=r+(N:Int) by omega);obtain⟨m,hm⟩:∃m:Nat,Int.tmod (r+(N:Int)) (N:Int)=(m:Int):=⟨(Int.tmod (r+(N:Int)) (N:Int)).toNat,by omega⟩;rw[hm] at s1;have z1:IntKind.i64.wrap (Int.tmod x (N:Int))=r:=by rw[hr,IntKind.wrap_i64];omega
 have z2:IntKind.i64.wrap (r+(N:Int))=r+(N:Int):=by rw[IntKind.wrap_i64];omega
 have z3:IntKind.i64.wrap (Int.tmod (r+(N:Int)) (N:Int))=(m:Int):=by rw[hm,IntKind.wrap_i64];omega
 have hN2:¬(N:Int)=0:=by omega
 refine⟨m,by omega,fun w => ?_⟩;clear r1 r2 s1 s2 h0 h1 hN;go_enter Tryz.func22, Tryz.ntmps22;go_wp2;go_ret;exact⟨rfl,rfl⟩
section
variable {pool z nw k:Nat} {c:Ct} {nd:Nd}
end
def pos (l:List Int):List Int:=l.filter fun d=>decide (0 < d)
def zeI (a b:Int) (l:List Int):List Int:=l.map fun d=>if a < d/\d<=b then -1 else d
def zeJ (a b:Int) (l:List Int):Nat:=(l.filter fun d=>decide (a < d/\d<=b)).length
def zdQ (l:List Int):List Int:=l.map fun d=>if d≠0 then -1 else d
theorem zjq:∀(l:List Int) (n:Nat) (v:Int),n < l.length->l.getD n 0=0->0 < v->(pos (l.set n v)).Perm (v::pos l)
 | [],n,v,h,_,_=>absurd h (Nat.not_lt_zero _)
 | x::l,0,v,_,h,hv=>by
  have hx:x=0:=h;subst hx;show (List.filter _ (v::l)).Perm (v::List.filter _ (0::l))
  rw[List.filter_cons,List.filter_cons,if_pos (by simpa using hv),if_neg (by decide)]
 | x::l,n+1,v,hn,h,hv=>by
  have ih:=zjq l n v (by simpa using hn) h hv;show (List.filter _ (x::l.set n v)).Perm (v::List.filter _ (x::l))
  rw[List.filter_cons,List.filter_cons]
  split
  ·exact (ih.cons x).trans (List.Perm.swap v x _)
  ·exact ih
theorem zgu (a b:Int) (ha:0<=a):∀(l:List Int),(∀d∈pos l,a < d)->pos (zeI a b l)=(pos l).filter fun d=>!decide (d<=b)
 | [],_=>rfl
 | x::l,h=>by
  have hx:0 < x->a < x:=fun h0=>h x (by unfold pos;rw[List.filter_cons,if_pos (by simpa using h0)];exact List.mem_cons_self ..)
  have ih:=zgu a b ha l (fun d hd=>h d (by
   unfold pos at hd ⊢;rw[List.filter_cons]
   split
   ·exact List.mem_cons_of_mem _ hd
   ·exact hd))
  unfold pos zeI at ih ⊢;rw[List.map_cons,List.filter_cons,List.filter_cons,ih];by_cases h0:0 < x
  ·have h1:=hx h0
   by_cases hb:x<=b
   ·have e1:(if a < x/\x<=b then (-1:Int) else x) = -1:=if_pos ⟨h1,hb⟩
    rw[e1,if_neg (by decide),if_pos (by simpa using h0),List.filter_cons,if_neg (by simpa using hb)]
   ·have e1:(if a < x/\x<=b then (-1:Int) else x)=x:=if_neg (fun c=>hb c.2)
    rw[e1,if_pos (by simpa using h0),if_pos (by simpa using h0),List.filter_cons,if_pos (by simpa using hb)]
  ·have h1:¬a < x:=by omega
   have e1:(if a < x/\x<=b then (-1:Int) else x)=x:=if_neg (fun c=>h1 c.1);rw[e1,if_neg (by simpa using h0),if_neg (by simpa using h0)]
theorem zgv (a b:Int) (ha:0<=a):∀(l:List Int),(∀d∈pos l,a < d)->((pos l).filter fun d=>decide (d<=b)).length=zeJ a b l
 | [],_=>rfl
 | x::l,h=>by
  have hx:0 < x->a < x:=fun h0=>h x (by unfold pos;rw[List.filter_cons,if_pos (by simpa using h0)];exact List.mem_cons_self ..)
  have ih:=zgv a b ha l (fun d hd=>h d (by
   unfold pos at hd ⊢;rw[List.filter_cons]
   split
   ·exact List.mem_cons_of_mem _ hd
   ·exact hd))
  unfold pos zeJ at ih ⊢;rw[List.filter_cons,List.filter_cons];by_cases h0:0 < x
  ·have h1:=hx h0
   rw[if_pos (by simpa using h0),List.filter_cons];by_cases hb:x<=b
   ·rw[if_pos (by simpa using hb),if_pos (by simpa using ⟨h1,hb⟩),List.length_cons,List.length_cons,ih]
   ·rw[if_neg (by simpa using hb),if_neg (by simp;omega),ih]
  ·have h1:¬a < x:=by omega
   rw[if_neg (by simpa using h0),if_neg (by simp;omega),ih]
theorem zgw:∀l:List Int,pos (zdQ l)=[]
 | []=>rfl
 | x::l=>by
  have ih:=zgw l;unfold pos zdQ at ih ⊢;rw[List.map_cons,List.filter_cons,ih,if_neg];by_cases h:x≠0
  ·rw[if_pos h];decide
  ·rw[if_neg h];simp;omega
theorem zdN (f:Int->Int) (h0:f 0=0):∀(l:List Int) (k:Nat),(l.map f).getD k 0=f (l.getD k 0)
 | [],k=>by simp[h0]
 | x::l,0=>by simp
 | x::l,k+1=>by
  rw[List.map_cons,List.getD_cons_succ,List.getD_cons_succ,zdN f h0 l k]
theorem zoh (a b:Int) (ha:0<=a) (l:List Int) (k:Nat):(zeI a b l).getD k 0≠0↔l.getD k 0≠0:=by
 unfold zeI;rw[zdN _ (by rw[if_neg (by omega)])]
 split <;> omega
theorem zoi (l:List Int) (k:Nat):(zdQ l).getD k 0≠0↔l.getD k 0≠0:=by
 unfold zdQ;rw[zdN _ (by rw[if_neg (by omega)])]
 split <;> omega
structure Oq (i nw:Nat) (due:List Int) (nd:Nd):Prop where
 ex:∃l t ws c,nd=Nu 60 50 l t ws c/\t.now=nw/\ws.length<=i/\t.l.length<=i/\t.many<=i/\(c.on<=i/\c.home<=i/\c.loop<=i/\c.drop<=i/\c.twice<=i/\c.bad<=i)/\(∀x∈ws,x.1<=c.on)/\(∀x∈l,x.length=16)/\l.length<=i/\l.Nodup
  /\ (∀k,k < 10->(TG k∈l↔due.getD k 0≠0))/\(t.l.map fun x=>(x.a:Int)).Perm (pos due)/\(∀x∈t.l,nw < x.a)
 ni:Ni nd
 len:due.length=10
 far:nw<=1000000
section
variable {i nw:Nat} {due:List Int} {nd:Nd}
theorem Oq.nb (h:Oq i nw due nd) (hi:i<=20):Nb nd:=by
 obtain⟨l,t,ws,c,rfl,h1,h2,h2',h3,h4,h5,h6,h7,-⟩:=h.ex;obtain⟨c1,c2,c3,c4,c5,c6⟩:=h4;exact zjo (by decide) (by omega) ⟨by omega,by omega,by omega,by omega,by omega,by omega⟩ (by omega) h5 (zjp h6 (by omega))
theorem Oq.begin:Oq 0 0 (List.replicate 10 0) (Nu 60 50 [] Go.Proofs.Wh.St.init [] c0) :=
 ⟨⟨[],Go.Proofs.Wh.St.init,[],c0,rfl,rfl,nL _,nL _,nL _,⟨nL _,nL _,nL _,nL _,nL _,nL _⟩,(fun x hx=>by cases hx),(fun x hx=>by cases hx),nL _,List.Pairwise.nil,
  (fun k hk=>⟨fun h=>(by cases h),fun h=>absurd (by
   rw[List.getD_eq_getElem?_getD,List.getElem?_replicate,if_pos hk];rfl) h⟩),List.Perm.refl _,(fun x hx=>by cases hx)⟩,⟨List.Perm.refl _,List.Pairwise.nil⟩,rfl,by decide⟩
theorem Oq.crash (h:Oq i nw due nd) (hi:i<=20) (ps:List Int):(Go.Proofs.Dk.crS nd.s ps).n=60/\(Go.Proofs.Dk.crS nd.s ps).l=[]/\∃s' nd',nwX (pv zap 0) 50 (Go.Proofs.Dk.crS nd.s ps)=((0,s'),some nd')/\Oq i 0 (zdQ due) nd':=by
 obtain⟨⟨l,t,ws,c,rfl,h1,h2,h2',h3,h4,h5,h6,h7,h8,h9,h10,h11⟩,I,L,F⟩:=h;have e:Go.Proofs.Dk.crS (Nu 60 50 l t ws c).s ps=Ud 60 (Go.Proofs.Lg.tgr l):=rfl;rw[e];refine⟨rfl,rfl,_,_,zlE (pv zap 0) (zbe _ _) 50 60 (by decide) (by decide) l (by decide) (by omega) h6 h8,⟨l,Go.Proofs.Wh.St.init,[],c0,rfl,rfl,Nat.zero_le _,Nat.zero_le _,Nat.zero_le _,⟨Nat.zero_le _,Nat.zero_le _,Nat.zero_le _,Nat.zero_le _,Nat.zero_le _,Nat.zero_le _⟩,(fun x hx=>by cases hx),h6,h7,h8,fun k hk => ?_,?_,(fun x hx=>by cases hx)⟩,⟨List.Perm.refl _,List.Pairwise.nil⟩,?_,Nat.zero_le _⟩
 ·rw[zoi];exact h9 k hk
 ·rw[zgw];exact List.Perm.refl _
 ·unfold zdQ;rw[List.length_map];exact L
theorem Oq.tick (h:Oq i nw due nd) (tt:Nat) (ht:nw<=tt) (hf:tt<=1000000):nd.tickE (tt:Int)=0/\(nd.tickV (tt:Int)).length=zeJ (nw:Int) (tt:Int) due/\Oq i tt (zeI (nw:Int) (tt:Int) due) (nd.tickS (tt:Int)):=by
 have I2:=h.ni.tick (tt:Int);obtain⟨⟨l,t,ws,c,rfl,h1,h2,h2',h3,h4,h5,h6,h7,h8,h9,h10,h11⟩,I,L,F⟩:=h;have hp:∀d∈pos due,(nw:Int) < d:=fun d hd=>by
  obtain⟨x,hx,rfl⟩:=List.mem_map.1 (h10.mem_iff.2 hd);have:=h11 x hx;omega
 have hE:Go.Proofs.Wh.advE t (tt:Int)=0:=by
  unfold Go.Proofs.Wh.advE Go.Proofs.Wh.maxT;rw[if_neg (by omega),if_neg (by omega)]
 have hV:Go.Proofs.Wh.advV t (tt:Int)=(Go.Proofs.Wh.due (tt:Int) t.l).map Go.Proofs.Wh.Tm.i:=by
  unfold Go.Proofs.Wh.advV;rw[if_pos hE]
 have hS:Go.Proofs.Wh.advS t (tt:Int)=⟨tt,t.many,Go.Proofs.Wh.rest (tt:Int) t.l⟩:=by
  unfold Go.Proofs.Wh.advS;rw[if_pos hE];rfl
 have hc:(Go.Proofs.Wh.due (tt:Int) t.l).length=zeJ (nw:Int) (tt:Int) due:=by
  rw[<-zgv (nw:Int) (tt:Int) (by omega) due hp,<-(h10.filter _).length_eq,List.filter_map,List.length_map];rfl
 have hr:((Go.Proofs.Wh.rest (tt:Int) t.l).map fun x=>(x.a:Int)).Perm (pos (zeI (nw:Int) (tt:Int) due)):=by
  rw[zgu (nw:Int) (tt:Int) (by omega) due hp];have:=h10.filter (fun d=>!decide (d<=(tt:Int)));rw[List.filter_map] at this;exact this
 have hl:=I2.len;refine⟨hE,?_,⟨l,Go.Proofs.Wh.advS t (tt:Int),_,c,zoe _,by rw[hS],Nat.le_trans (List.length_filter_le ..) h2,?_,by rw[hS];exact h3,h4,fun x hx=>h5 x (List.mem_filter.1 hx).1,h6,h7,h8,fun k hk => ?_,?_,?_⟩,I2,?_,hf⟩
 ·show ((Go.Proofs.Wh.advV t (tt:Int)).map _).length=_
  rw[List.length_map,hV,List.length_map,hc]
 ·rw[hS]
  exact Nat.le_trans (List.length_filter_le ..) h2'
 ·rw[zoh _ _ (by omega)];exact h9 k hk
 ·rw[hS];exact hr
 ·rw[hS]
  intro x hx;have:=(List.mem_filter.1 hx).2;simp at this;omega
 ·unfold zeI;rw[List.length_map];exact L
theorem Oq.take (h:Oq i nw due nd) (hi:i < 20) (n:Nat) (hn:n < 10) (hd:due.getD n 0=0):∃nd',nd.takeP (pv zap 0) (zeG n n)=(0,nd')/\Oq (i+1) nw (due.set n ((nw:Int)+1+(n:Int))) nd':=by
 obtain⟨⟨l,t,ws,c,rfl,h1,h2,h2',h3,⟨c1,c2,c3,c4,c5,c6⟩,h5,h6,h7,h8,h9,h10,h11⟩,I,L,F⟩:=h;have hnew:TG n ∉ l:=fun q=>(h9 n hn).1 q hd
 obtain⟨X,zX,e⟩:=zjk (n:=60) (pool:=50) (l:=l) (t:=t) (w:=ws) (c:=c) n n hn (by omega) (by omega) (by omega) hnew h6 (by omega) (by omega);have hE:Go.Proofs.Wh.putE t ((t.now:Int)+1+(n:Int))=0:=by
  unfold Go.Proofs.Wh.putE Go.Proofs.Wh.maxT Go.Proofs.Wh.maxI;rw[if_neg (by omega),if_neg (by omega),if_neg (by omega)]
 have hs:Go.Proofs.Wh.putS t ((t.now:Int)+1+(n:Int)) ((c.on+1:Nat):Int)=⟨t.now,t.many+1,Go.Proofs.Wh.ins ⟨t.now+1+n,t.many+1,((c.on+1:Nat):Int)⟩ t.l⟩:=by
  unfold Go.Proofs.Wh.putS;rw[if_pos hE];have:((t.now:Int)+1+(n:Int)).toNat=t.now+1+n:=by omega
  rw[this]
 refine⟨_,e,⟨_,_,_,_,rfl,?_,?_,?_,?_,?_,?_,?_,?_,?_,?_,?_,?_⟩,?_,?_,F⟩
 ·rw[hs];exact h1
 ·rw[List.length_append]
  show ws.length+1<=i+1;omega
 ·rw[hs]
  show (Go.Proofs.Wh.ins _ _).length<=_;rw[Go.Proofs.Wh.ins_length];omega
 ·rw[hs]
  show t.many+1<=i+1;omega
 ·exact⟨by show c.on+1<=i+1;omega,by show c.home<=i+1;omega,by show c.loop<=i+1;omega,by show c.drop<=i+1;omega,by show c.twice<=i+1;omega,by show c.bad<=i+1;omega⟩
 ·intro x hx
  rcases List.mem_append.1 hx with hx|hx
  ·have:=h5 x hx
   show x.1<=c.on+1;omega
  ·rw[List.mem_singleton] at hx
   subst hx;exact nL _
 ·intro x hx
  rcases List.mem_append.1 hx with hx|hx
  ·exact h6 x hx
  ·rw[List.mem_singleton] at hx
   rw[hx];exact zgs n
 ·rw[List.length_append]
  show l.length+1<=i+1;omega
 ·rw[List.nodup_append]
  exact⟨h8,List.pairwise_singleton _ _,fun a ha b hb c=>by
   rw[List.mem_singleton] at hb;subst hb;subst c;exact hnew ha⟩
 ·intro k hk
  rw[List.mem_append,List.mem_singleton,List.getD_eq_getElem?_getD,List.getElem?_set];by_cases e:n=k
  ·subst e
   rw[if_pos rfl,if_pos (by omega),Option.getD_some];exact⟨fun _=>by omega,fun _ => .inr rfl⟩
  ·rw[if_neg e,<-List.getD_eq_getElem?_getD,<-h9 k hk]
   constructor
   ·rintro (q|q)
    ·exact q
    ·exact absurd (Go.Proofs.Tg.tag_apart k n hk hn q) (Ne.symm e)
   ·exact .inl
 ·rw[hs]
  show ((Go.Proofs.Wh.ins _ t.l).map fun x=>(x.a:Int)).Perm _;refine ((Go.Proofs.Wh.ins_perm _ _).map _).trans ?_;rw[List.map_cons];have hv:((t.now+1+n:Nat):Int)=(nw:Int)+1+(n:Int):=by omega
  show (((t.now+1+n:Nat):Int)::_).Perm _;rw[hv];exact (h10.cons _).trans (zjq due n _ (by omega) hd (by omega)).symm
 ·rw[hs]
  intro x hx;rcases Go.Proofs.Wh.ins_mem.1 hx with rfl|hx
  ·show nw < t.now+1+n
   omega
  ·exact h11 x hx
 ·have d:=I.did h5 ⟨1,7,0,(n:Int),⟨#[]⟩⟩ X (fun _=>hE)
  unfold Nd.did at d;rw[if_pos rfl] at d;exact⟨d.perm,d.apart⟩
 ·rw[List.length_set];exact L
theorem Oq.seen (h:Oq i nw due nd) (hi:i < 20) (n:Nat) (hn:n < 10) (hd:due.getD n 0≠0):∃nd',nd.takeP (pv zap 0) (zeG n n)=(170,nd')/\Oq (i+1) nw due nd':=by
 obtain⟨⟨l,t,ws,c,rfl,h1,h2,h2',h3,⟨c1,c2,c3,c4,c5,c6⟩,h5,h6,h7,h8,h9,h10,h11⟩,I,L,F⟩:=h;exact⟨_,zjl (n:=60) (pool:=50) (l:=l) (t:=t) (w:=ws) (c:=c) n n hn (by omega) (by omega) (by omega) ((h9 n hn).2 hd),
  ⟨l,t,ws,_,rfl,h1,by omega,by omega,by omega,⟨by show c.on<=i+1;omega,by show c.home<=i+1;omega,by show c.loop<=i+1;omega,by show c.drop<=i+1;omega,by show c.twice+1<=i+1;omega,by show c.bad<=i+1;omega⟩,h5,h6,by omega,h8,h9,h10,h11⟩,⟨I.perm,I.apart⟩,L,F⟩
end
def Rw (W:Wo) (Q:Nat) (L:List Int):Prop:=∀j (hj:j < L.length),W.cell? ⟨Q,j,none⟩=some (.int .i64 L[j])/\W.frozen? ⟨Q,j,none⟩=false
theorem Rw.set {W:Wo} {Q:Nat} {L:List Int} (h:Rw W Q L) (k:Nat) (x:Int):Rw (W.setCell ⟨Q,k,none⟩ (.int .i64 x)) Q (L.set k x):=fun j hj=>by
 obtain⟨h0,h1⟩:=h j (by simpa using hj);refine⟨?_,by simp[go_sem,h1]⟩;by_cases e:k=j
 ·subst e;simp[go_sem,h0]
 ·have hne:(⟨Q,k,none⟩:Addr)≠⟨Q,j,none⟩:=fun q=>e (by injection q)
  rw[World.cell?_setCell_other _ _ _ _ hne,h0];simp[e]
theorem Rw.bf {W W':Wo} {K:Nat->Prop} {Q:Nat} {L:List Int} (h:Rw W Q L) (hb:Sto.Bf K W W') (hQ:¬K Q):Rw W' Q L:=fun j hj=>by
 obtain⟨h0,h1⟩:=h j hj;have hl:=World.block_lt_of_cell? _ _ h0;exact⟨hb.cell h0 hQ,(World.frozen?_of_block (a:=⟨Q,j,none⟩) (hb.block Q hl hQ)).trans h1⟩
theorem Rw.later {W W':Wo} {Q:Nat} {L:List Int} (h:Rw W Q L) (hb:Bw W W'):Rw W' Q L:=h.bf (K:=fun _=>False) (Sto.Bf.of hb) (fun c=>c)
def prt (f:Int->Int) (j:Nat) (l:List Int):List Int:=(l.take j).map f++l.drop j
theorem zdO (f:Int->Int) (j:Nat) (l:List Int):(prt f j l).length=l.length:=by
 unfold prt;rw[List.length_append,List.length_map,List.length_take,List.length_drop];omega
theorem zjr (f:Int->Int) (l:List Int):prt f l.length l=l.map f:=by
 unfold prt;rw[List.take_length,List.drop_length,List.append_nil]
theorem zjs (f:Int->Int) (j:Nat) (l:List Int) (hj:j < l.length):(prt f j l)[j]'(by rw[zdO];exact hj)=l[j]:=by
 unfold prt;rw[List.getElem_append_right (by rw[List.length_map,List.length_take];omega),List.getElem_drop];congr 1;rw[List.length_map,List.length_take];omega
theorem zfA (f:Int->Int) (j:Nat) (l:List Int) (hj:j < l.length):(prt f j l).set j (f l[j])=prt f (j+1) l:=by
 unfold prt;have hl:((l.take j).map f).length=j:=by rw[List.length_map,List.length_take];omega
 rw[List.set_append_right _ _ (by omega),hl,Nat.sub_self,List.drop_eq_getElem_cons hj,List.set_cons_zero,List.take_succ_eq_append_getElem hj,List.map_append,List.append_assoc];rfl
theorem zgx (f:Int->Int) (j:Nat) (l:List Int) (hj:j < l.length) (h:f l[j]=l[j]):prt f (j+1) l=prt f j l:=by
 rw[<-zfA f j l hj,h];have:l[j]=(prt f j l)[j]'(by rw[zdO];exact hj):=(zjs f j l hj).symm;rw[this,List.set_getElem_self]
def Oo (w:Wo) (p m Q i nw:Nat) (cs due:List Int) (W:Wo):Prop:=∃nd lab,Oq i nw due nd/\No w p m (pv zap 0) nd lab W/\5<=lab Q/\w.heap.size<=Q/\Rw W Q cs
section
variable {w W:Wo} {p m Q i nw:Nat} {cs due:List Int}
theorem Oo.below (h:Oo w p m Q i nw cs due W):Bw w W:=by
 obtain⟨nd,lab,-,h,-⟩:=h;exact h.below
theorem Oo.later (h:Oo w p m Q i nw cs due W) {W':Wo} (hb:Bw W W'):Oo w p m Q i nw cs due W':=by
 obtain⟨nd,lab,h0,h,h1,h2,h3⟩:=h;exact⟨nd,lab,h0,h.later hb,h1,h2,h3.later hb⟩
theorem Oo.set (h:Oo w p m Q i nw cs due W) (k:Nat) (x:Int):Oo w p m Q i nw (cs.set k x) due (W.setCell ⟨Q,k,none⟩ (.int .i64 x)):=by
 obtain⟨nd,lab,h0,h,h1,h2,h3⟩:=h;have f:Sto.Bf (fun z=>z=Q) W (W.setCell ⟨Q,k,none⟩ (.int .i64 x)):=Sto.bf_set (Sto.Bf.refl _ _) rfl;exact⟨nd,lab,h0,h.aside f (fun z e _=>by rw[e];exact h1) (fun z e=>by rw[e];exact h2) (fun _ _=>rfl),h1,h2,h3.set k x⟩
theorem Oo.cell (h:Oo w p m Q i nw cs due W) (k:Nat) (hk:k < cs.length):W.cell? ⟨Q,k,none⟩=some (.int .i64 cs[k])/\W.frozen? ⟨Q,k,none⟩=false:=by
 obtain⟨nd,lab,h0,h,h1,h2,h3⟩:=h;exact h3 k hk
theorem Oo.len (h:Oo w p m Q i nw cs due W):due.length=10:=by
 obtain⟨nd,lab,h0,-⟩:=h;exact h0.len
def Oc (w:Wo) (p Q i:Nat) (cs due:List Int) (W:Wo):Prop:=∃s lab,(s.n=60/\s.l=[]/\∃s' nd',nwX (pv zap 0) 50 s=((0,s'),some nd')/\Oq i 0 (zdQ due) nd')/\Do w p s lab W/\5<=lab Q/\w.heap.size<=Q/\Q < W.heap.size/\Rw W Q cs
theorem Oc.below (h:Oc w p Q i cs due W):Bw w W:=by
 obtain⟨s,lab,-,h,-⟩:=h;exact h.below
theorem Oc.later (h:Oc w p Q i cs due W) {W':Wo} (hb:Bw W W'):Oc w p Q i cs due W':=by
 obtain⟨s,lab,h0,h,h1,h2,h4,h3⟩:=h;exact⟨s,lab,h0,h.later hb,h1,h2,Nat.lt_of_lt_of_le h4 hb.size,h3.later hb⟩
theorem zeK {lab lab':Nat->Nat} {W':Wo} (f:Fr w W lab lab' W') (h1:5<=lab Q) (hl:Q < W.heap.size):5<=lab' Q/\¬Fm w lab Q:=⟨by rw[f.lo Q hl];exact h1,fun c=>by have:=c.1;omega⟩
theorem zlH (h:Rw W Q cs) (hc:0 < cs.length):Q < W.heap.size:=World.block_lt_of_cell? _ _ (h 0 hc).1
theorem zoj (pa:Option Addr) (pn pc:Nat) (ps:List Int) (hpn:ps.length=pn) (hp:Sto.IntAt w pa ps) (hi:i<=20) (hc:0 < cs.length) (h:Oo w p m Q i nw cs due W) :
  Cl 21 #[.pointer (some ⟨p,0,none⟩),.slice pa pn pc] W fun e w'=>e = .returned (.int .i64 0)/\Oc w p Q i cs due w':=by
 obtain⟨nd,lab,h0,h,h1,h2,h3⟩:=h;obtain⟨F,d,l⟩:=h.disk;have hl:=zlH h3 hc;have hs:nd.s.l.length<=1000000:=by have:=(h0.nb hi).sl;omega
 refine (zof pa pn pc ps hpn hs (hp.later h.below) (fun x e hx=>by
  obtain⟨b,o,e2,hc⟩:=hp 0 hx;rw[e] at e2;injection e2 with e2
  subst e2;exact World.block_lt_of_cell? _ _ hc) ⟨F,d,l⟩).mono ?_
 rintro e w' ⟨he,lab',h',f⟩;obtain⟨g1,g2⟩:=zeK f h1 hl;obtain⟨c1,c2,c3⟩:=h0.crash hi ps;exact⟨he,_,lab',⟨c1,c2,c3⟩,h',g1,h2,Nat.lt_of_lt_of_le hl f.bf.size,h3.bf f.bf g2⟩
theorem zrZ (K:Hid (Kh w)) (h:Oc w p Q i cs due W) :
  Cl 18 #[.string (pv zap 0),.pointer (some ⟨p,0,none⟩),.int .i64 50] W fun e w'=>∃m,e = .returned (.tuple #[.pointer (some ⟨m,0,none⟩),.int .i64 0])/\Oo w p m Q i 0 cs (zdQ due) w':=by
 obtain⟨s,lab,⟨s1,s2,s',nd',s3,s4⟩,h,h1,h2,h4,h3⟩:=h;refine (zog (pv zap 0) 50 (by omega) (by rw[s2];decide) K h s3).mono ?_;rintro e w' ⟨m,he,lab',hn,f⟩;obtain⟨g1,g2⟩:=zeK f h1 h4;exact⟨m,he,nd',lab',s4,hn,g1,h2,h3.bf f.bf g2⟩
theorem zp2 (tt:Nat) (ht:nw<=tt) (hf:tt<=1000000) (hi:i<=20) (hc:0 < cs.length) (h:Oo w p m Q i nw cs due W) :
  Cl 23 #[.pointer (some ⟨m,0,none⟩),.int .i64 (tt:Int)] W fun e w'=>∃da dc,e = .returned (.tuple #[.slice da (zeJ (nw:Int) (tt:Int) due) dc,.int .i64 0])/\Oo w p m Q i tt cs (zeI (nw:Int) (tt:Int) due) w':=by
 obtain⟨nd,lab,h0,h,h1,h2,h3⟩:=h;obtain⟨e1,e2,h0'⟩:=h0.tick tt ht hf;have:=zjn (tt:Int) h0.ni (h0.nb hi) h;rw[e1] at this;refine this.mono ?_;rintro e w' ⟨da,dn,dc,he,hd,-,lab',hn,f,-⟩;rw[e2] at hd;subst hd;obtain⟨g1,g2⟩:=zeK f h1 (zlH h3 hc);exact⟨da,dc,he,_,lab',h0',hn,g1,h2,h3.bf f.bf g2⟩
theorem zp3 (CL:Hid zc0) (K:Hid (Kh w)) (hi:i < 20) (n:Nat) (hn:n < 10) (hd:due.getD n 0=0) (hc:0 < cs.length) (h:Oo w p m Q i nw cs due W) :
  Cl 24 #[.pointer (some ⟨m,0,none⟩),.string (zeG n n)] W fun e w'=>e = .returned (.int .i64 0)/\Oo w p m Q (i+1) nw cs (due.set n ((nw:Int)+1+(n:Int))) w':=by
 obtain⟨nd,lab,h0,h,h1,h2,h3⟩:=h;obtain⟨nd',e1,h0'⟩:=h0.take hi n hn hd;have:=zgt CL (zbe _ _) (zeG n n) (zdM n n hn (by omega)) (h0.nb (by omega)) K h;rw[e1] at this;refine this.mono ?_;rintro e w' ⟨he,lab',hn',f⟩;obtain⟨g1,g2⟩:=zeK f h1 (zlH h3 hc);exact⟨he,nd',lab',h0',hn',g1,h2,h3.bf f.bf g2⟩
theorem zp4 (CL:Hid zc0) (K:Hid (Kh w)) (hi:i < 20) (n:Nat) (hn:n < 10) (hd:due.getD n 0≠0) (hc:0 < cs.length) (h:Oo w p m Q i nw cs due W) :
  Cl 24 #[.pointer (some ⟨m,0,none⟩),.string (zeG n n)] W fun e w'=>e = .returned (.int .i64 170)/\Oo w p m Q (i+1) nw cs due w':=by
 obtain⟨nd,lab,h0,h,h1,h2,h3⟩:=h;obtain⟨nd',e1,h0'⟩:=h0.seen hi n hn hd;have:=zgt CL (zbe _ _) (zeG n n) (zdM n n hn (by omega)) (h0.nb (by omega)) K h;rw[e1] at this;refine this.mono ?_;rintro e w' ⟨he,lab',hn',f⟩;obtain⟨g1,g2⟩:=zeK f h1 (zlH h3 hc);exact⟨he,nd',lab',h0',hn',g1,h2,h3.bf f.bf g2⟩
theorem zlI {nd:Nd} {lab:Nat->Nat} (h0:Oq 0 0 (List.replicate 10 0) nd) (h:No w p m (pv zap 0) nd lab W) (ty:TypeId) :
  Oo w p m W.heap.size 0 0 (List.replicate 10 0) (List.replicate 10 0) (W.alloc (.cells #[.int .i64 0,.int .i64 0,.int .i64 0,.int .i64 0,.int .i64 0,.int .i64 0,.int .i64 0,.int .i64 0,.int .i64 0,.int .i64 0] ty)):=by
 have nb:Bw W (W.alloc (.cells #[.int .i64 0,.int .i64 0,.int .i64 0,.int .i64 0,.int .i64 0,.int .i64 0,.int .i64 0,.int .i64 0,.int .i64 0,.int .i64 0] ty)):=(bQ _ _).alloc (nL _) _;refine⟨nd,relab lab W.heap.size 9,h0,h.relab nb (fun z=>zaq),?_,h.below.size,fun j hj => ?_⟩
 ·rw[zar (nL _)];decide
 ·have hj':j < 10:=by simpa using hj
  refine⟨?_,by simp[go_sem]⟩;rw[World.cell?_alloc_new,List.getElem_replicate];have:∀j,j < 10->(#[Value.int .i64 0,.int .i64 0,.int .i64 0,.int .i64 0,.int .i64 0,.int .i64 0,.int .i64 0,.int .i64 0,.int .i64 0,.int .i64 0]:Array Value)[j]?=some (.int .i64 0):=by
   intro j h;rcases (by omega:j=0\/j=1\/j=2\/j=3\/j=4\/j=5\/j=6\/j=7\/j=8\/j=9) with rfl|rfl|rfl|rfl|rfl|rfl|rfl|rfl|rfl|rfl <;> rfl
  exact this j hj'
end
structure Cm where
 n:Int
 g:Int
 cr:Bool
 pa:Option Addr
 pn:Nat
 pc:Nat
 ps:List Int
structure Cm.L (w:Wo) (y:Cm):Prop where
 at_:Sto.IntAt w y.pa y.ps
 len:y.ps.length=y.pn
def zjt (w:Wo) (a:Option Addr) (L:List Cm):Prop:=∀i (hi:i < L.length),∃b o,a=some ⟨b,o,none⟩/\w.cell? ⟨b,o+i*4,none⟩=some (.int .i64 L[i].n)/\w.cell? ⟨b,o+i*4+1,none⟩=some (.int .i64 L[i].g)/\w.cell? ⟨b,o+i*4+2,none⟩=some (.bool L[i].cr)/\w.cell? ⟨b,o+i*4+3,none⟩=some (.slice L[i].pa L[i].pn L[i].pc)
end Go.Proofs.YtjcppbhgjchjaaaGreatDoor
namespace Go.Proofs.YtjcppbhgjchjaaaGreatDoor
open Go.ChangeShapes Go.WideShapes Go.Deep Go.RowKit Go.Proofs.Fd
section
variable {H:Type} {enc:TypeId×Value->H} {w:Wo} {base:Nat} {sp:Nat->Bool} {held:Bool}
theorem zwg (b o k:Nat):Addr.add ⟨b,o,none⟩ k=⟨b,o+k,none⟩:=by first|(simp[Addr.add];done)|(simp[Addr.add];intro h;simp[h])
theorem zs2 {P:Program} {e:TypeId}:∀{l:List (DataW H)} {d:DataW H},d∈l->∀n∈d.weights P e,n∈DataW.weightsAll P e l
 | [],_,h,_,_=>by cases h
 | x::l,d,h,n,hn=>by
  rw[DataW.weightsAll,List.mem_append];rcases List.mem_cons.1 h with rfl|h
  ·exact .inl hn
  ·exact .inr (zs2 h n hn)
theorem zwK {fuel:Nat} {cs:List Value} {x:DataW H×List MemPlace} (hf:DataW.trod enc Tryz.prog w base sp held fuel 45 cs=some x) (hw:∀n∈x.1.weights Tryz.prog 45, n<=reachBytes) :
  ∃a n c is,cs=[.slice a n c]/\Sto.IntAt w a is/\is.length=n/\(a=none->n=0/\c=0)/\n*8<=140737488351232:=by
 rcases open_slice1 Tryz.underlying45 (by kernel_rfl) hf with ⟨h0,rfl⟩|⟨a,len,cap,m,n,V,D,Pl,rfl,hb,hl,hm,hmm,rfl,hx⟩
 ·exact⟨none,0,0,[],h0,fun i hi=>absurd hi (Nat.not_lt_zero _),rfl,fun _=>⟨rfl,rfl⟩,by decide⟩
 have hlm:len<=m:=by rw[hmm];split <;> omega
 obtain⟨f,hfn⟩:=choose_lt (n:=len) (p:=fun i (z:Int)=>w.cell? (a.add i)=some (.int .i64 z)) (fun i hi=>by
  obtain⟨h1,h2⟩:=hx i (by omega);obtain⟨z,hz,-⟩:=DataW.trod_int Tryz.underlying3 h2;have e:V i = .int .i64 z:=by injection hz
  exact⟨z,by rw[h1,e]⟩)
 have hz:(len+(m - len))*Tryz.prog.bytesOf 3 <= reachBytes:=hw _ (by simp[DataW.weights,Tryz.underlying45]);rw[show Tryz.prog.bytesOf 3 = 8 by kernel_rfl] at hz;unfold reachBytes at hz;refine⟨some a,len,cap,(List.range len).map f,rfl,fun i hi => ?_,by simp,nofun,by omega⟩;have hi':i < len:=by simpa using hi
 have hsp:a.spot=none:=by
  have:=World.cell?_spot (hfn 0 (by omega))
  simpa[Addr.add] using this
 obtain⟨b,o,spot⟩:=a;simp only at hsp;subst hsp;have e0:=hfn i hi';rw[zwg] at e0;refine⟨b,o,rfl,?_⟩;rw[List.getElem_map,List.getElem_range];exact e0
theorem zwL {fuel:Nat} {cs:List Value} {x:DataW H×List MemPlace} (hf:DataW.trod enc Tryz.prog w base sp held fuel 70 cs=some x) (hw:∀n∈x.1.weights Tryz.prog 70, n<=reachBytes):∃s:Cm,cs=[.int .i64 s.n,.int .i64 s.g,.bool s.cr,.slice s.pa s.pn s.pc]/\s.L w:=by
 obtain⟨xs,n,rfl,rfl,hl,hxl,hff⟩:=DataW.trod_struct Tryz.underlying70 hf;rw[show Tryz.prog.cellsOf 70 = 4 by kernel_rfl] at hl;obtain⟨y0,y1,y2,y3,rfl⟩:∃y0 y1 y2 y3,cs=[y0,y1,y2,y3]:=by
  match cs,hl with
  | [y0,y1,y2,y3],_=>exact⟨y0,y1,y2,y3,rfl⟩
 obtain⟨x0,x1,x2,x3,rfl⟩:∃x0 x1 x2 x3,xs=[x0,x1,x2,x3]:=by
  match xs,hxl with
  | [x0,x1,x2,x3],_=>exact⟨x0,x1,x2,x3,rfl⟩
 have cc:Tryz.prog.cellsOf 3 = 1:=by kernel_rfl
 have cb:Tryz.prog.cellsOf 4 = 1:=by kernel_rfl
 have cp:Tryz.prog.cellsOf 45 = 1:=by kernel_rfl
 have g0:DataW.trod enc Tryz.prog w base sp held n 3 (List.take (Tryz.prog.cellsOf 3) (List.drop 0 [y0,y1,y2,y3]))=some x0:=hff 0 _ rfl;have g1:DataW.trod enc Tryz.prog w base sp held n 3 (List.take (Tryz.prog.cellsOf 3) (List.drop 1 [y0,y1,y2,y3]))=some x1:=hff 1 _ rfl;have g2:DataW.trod enc Tryz.prog w base sp held n 4 (List.take (Tryz.prog.cellsOf 4) (List.drop 2 [y0,y1,y2,y3]))=some x2:=hff 2 _ rfl;have g3:DataW.trod enc Tryz.prog w base sp held n 45 (List.take (Tryz.prog.cellsOf 45) (List.drop 3 [y0,y1,y2,y3]))=some x3:=hff 3 _ rfl;rw[cc] at g0 g1;rw[cb] at g2;rw[cp] at g3;obtain⟨a,ha,-⟩:=DataW.trod_int Tryz.underlying3 g0;obtain⟨b,hb,-⟩:=DataW.trod_int Tryz.underlying3 g1;obtain⟨f,hf',-⟩:=DataW.trod_bool Tryz.underlying4 g2;obtain⟨pa,pn,pc,ps,hp,p1,p2,p3,p4⟩:=zwK g3 (fun q hq=>hw q (by
  simp only[DataW.weights,Tryz.underlying70];exact DataW.weights_mem_each (j:=3) (t := 45) (d:=x3.1) rfl rfl q hq))
 have ha':[y0]=[.int .i64 a]:=ha;have hb':[y1]=[.int .i64 b]:=hb;have hf2:[y2]=[.bool f]:=hf';have hp':[y3]=[.slice pa pn pc]:=hp;cases ha';cases hb';cases hf2;cases hp';exact⟨⟨a,b,f,pa,pn,pc,ps⟩,rfl,p1,p2⟩
theorem zv3 {fuel:Nat} {cs:List Value} {x:DataW H×List MemPlace} (hf:DataW.trod enc Tryz.prog w base sp held fuel 67 cs=some x) (hw:∀n∈x.1.weights Tryz.prog 67, n<=reachBytes) :
  ∃a n c ss,cs=[.slice a n c]/\zjt w a ss/\ss.length=n/\∀x∈ss,x.L w:=by
 rcases open_slice Tryz.underlying67 hf with ⟨h0,rfl⟩|⟨a,len,cap,m,n,D,Pl,rfl,hb,hl,hm,hmm,rfl,hx⟩
 ·exact⟨none,0,0,[],h0,fun i hi=>absurd hi (Nat.not_lt_zero _),rfl,fun x hx=>by cases hx⟩
 have hlm:len<=m:=by rw[hmm];split <;> omega
 obtain⟨f,hfn⟩:=@choose_lt Cm ⟨⟨0,0,false,none,0,0,[]⟩⟩ len ( fun i (h:Cm)=>(w.cell? (a.add (i*4))=some (.int .i64 h.n)/\w.cell? (a.add (i*4+1))=some (.int .i64 h.g)/\w.cell? (a.add (i*4+2))=some (.bool h.cr)/\w.cell? (a.add (i*4+3))=some (.slice h.pa h.pn h.pc))/\h.L w) (fun i hi=>by
  obtain⟨cs',h1,h2⟩:=hx i (by omega);obtain⟨h,rfl,hr⟩:=zwL h2 (fun q hq=>hw q (by
   simp only[DataW.weights,Tryz.underlying67];refine List.mem_cons_of_mem _ (List.mem_append.2 (.inl (zs2 (d:=D i) ?_ q hq)));exact List.mem_map.2 ⟨i,List.mem_range.2 hi,rfl⟩))
  rw[show Tryz.prog.cellsOf 70 = 4 by kernel_rfl] at h1;obtain⟨-,-,hc⟩:=World.cells?_some h1;have e0:=hc 0 (by omega);have e1:=hc 1 (by omega);have e2:=hc 2 (by omega);have e3:=hc 3 (by omega);rw[add_add] at e0 e1 e2 e3;exact⟨h,⟨e0,e1,e2,e3⟩,hr⟩)
 refine⟨some a,len,cap,(List.range len).map f,rfl,fun i hi => ?_,by simp,fun x hx => ?_⟩
 ·have hi':i < len:=by simpa using hi
  have hsp:a.spot=none:=by
   have:=World.cell?_spot (hfn 0 (by omega)).1.1
   simpa[Addr.add] using this
  obtain⟨b,o,spot⟩:=a;simp only at hsp;subst hsp;obtain⟨⟨e0,e1,e2,e3⟩,-⟩:=hfn i hi';rw[zwg] at e0 e1 e2 e3;refine⟨b,o,rfl,?_⟩;rw[List.getElem_map,List.getElem_range];exact⟨e0,by rw[Nat.add_assoc];exact e1,by rw[Nat.add_assoc];exact e2,by rw[Nat.add_assoc];exact e3⟩
 ·rw[List.mem_map] at hx
  obtain⟨i,hi,rfl⟩:=hx;exact (hfn i (List.mem_range.1 hi)).2
end
end Go.Proofs.YtjcppbhgjchjaaaGreatDoor
