/- A part of the walk. -/
import Derived.Test.YtjcppbhgjchjaaaGreatDoorZr2G39
set_option maxHeartbeats 8000000
set_option maxRecDepth 20000
namespace Go.Proofs.YtjcppbhgjchjaaaGreatDoor
open Go.RowKit Go.Proofs.Fd Go.Proofs.Hs Go.Proofs.Cc Go.Proofs.Hd Go.Proofs.Rt Go.Proofs.Wd
theorem zqk (p b:Ba) (hb:b.size=504) (w:World) (E:Int) (hE:¬E=0)
  (PE:Hid (∀w',Below w.heap.size w w'->Cl 162 #[.string p,.string (b.extract 0 248)] w' fun e w''=>e = .returned (.tuple #[hv zh,.string ⟨#[]⟩,kz,.int .i64 E])/\Below w'.heap.size w' w'')) :
  Cl 86 #[.string p,.string b] w fun e w'=>e = .returned (.tuple #[pdz,.int .i64 E])/\Below w.heap.size w w':=by
 have g1:(b.size:Int)=504:=by omega
 obtain⟨H,hH⟩:∃H,b.extract 0 248=H:=⟨_,rfl⟩;rw[hH] at PE;unfold hv zh kz at PE;simp only at PE;go_enter Tryz.func86, Tryz.ntmps86;go_wp2_with fail;refine Calls.mono (PE.out _ ((Below.refl _ _).alloc (Nat.le_refl _) _)) ?_;rintro e w1 ⟨rfl,hb1⟩;have J:Hid (zbN w1 w.heap.size zh ⟨#[]⟩ ⟨#[]⟩ ⟨#[]⟩/\Below w.heap.size w w1):=⟨(zbN.zero w).later hb1,chain ((Below.refl _ _).alloc (Nat.le_refl _) _) hb1⟩;clear hb1 PE;generalize hgg:w.heap.size=g at *;have F0:zbN (zgM w1 g zh ⟨#[]⟩ ⟨#[]⟩ ⟨#[]⟩) g zh ⟨#[]⟩ ⟨#[]⟩ ⟨#[]⟩/\Below g w (zgM w1 g zh ⟨#[]⟩ ⟨#[]⟩ ⟨#[]⟩):=⟨J.out.1.put _ _ _ _,zdc J.out.2 (Nat.le_refl _) _ _ _ _⟩;have F:Hid (zbN (((zgM w1 g zh ⟨#[]⟩ ⟨#[]⟩ ⟨#[]⟩).alloc (.cells #[.int .i64 0,.int .i64 0,.int .i64 0,.int .i64 0,.string ⟨#[]⟩] 82)).alloc (.cells #[.string ⟨#[]⟩,.string ⟨#[]⟩,.string ⟨#[]⟩,.string ⟨#[]⟩,.string ⟨#[]⟩] 144)) g zh ⟨#[]⟩ ⟨#[]⟩ ⟨#[]⟩/\Below g w (((zgM w1 g zh ⟨#[]⟩ ⟨#[]⟩ ⟨#[]⟩).alloc (.cells #[.int .i64 0,.int .i64 0,.int .i64 0,.int .i64 0,.string ⟨#[]⟩] 82)).alloc (.cells #[.string ⟨#[]⟩,.string ⟨#[]⟩,.string ⟨#[]⟩,.string ⟨#[]⟩,.string ⟨#[]⟩] 144))) :=
  ⟨(F0.1.later ((Below.refl _ _).alloc (Nat.le_refl _) _)).later ((Below.refl _ _).alloc (Nat.le_refl _) _),(F0.2.alloc (Nat.le_of_lt F0.1.lt) _).alloc (by have:=F0.1.lt;simp;omega) _⟩
 clear F0;unfold zgM zh at F;obtain⟨⟨h0,h1,h2,h3,h4,h5,h6,h7⟩,z0,z1,z2,z3,z4,z5,z6,z7⟩:=zbN.cells (k:=0) (n:=0) (u:=0) (d:=0) (id:=⟨#[]⟩) J.out.1;have lG:=J.out.1.lt;have lN:¬g=w1.heap.size:=by omega
 have lN1:¬g=w1.heap.size+1:=by omega
 go_wp2;refine bodyPost_ret (v := .tuple #[pdz,.int .i64 E]) ?_ rfl ⟨rfl,by rw[hgg];exact F.out.2⟩;exact zgQ _ _ g zh _ _ _ E (by kernel_rfl) (by kernel_rfl) F.out.1
def Stp (w W:World) (g gh gi:Nat) (x:Hp) (k0 k1 k2 k3 k4 k5:Ba):Prop:=zbN W g zh ⟨#[]⟩ ⟨#[]⟩ ⟨#[]⟩/\zak W gh x/\Six W gi k0 k1 k2 k3 k4 k5/\Below g w W/\g < gi/\gh < gi/\g < gh /\ 0 < g
theorem Stp.later {w W W':World} {g gh gi:Nat} {x:Hp} {k0 k1 k2 k3 k4 k5:Ba} (h:Stp w W g gh gi x k0 k1 k2 k3 k4 k5) (hg:g<=W.heap.size) (hb:Bw W W'):Stp w W' g gh gi x k0 k1 k2 k3 k4 k5 :=
 ⟨h.1.later hb,h.2.1.later hb,h.2.2.1.later hb,h.2.2.2.1.trans (hb.mono hg),h.2.2.2.2⟩
theorem Stp.opened {w W W':World} {g gh gi:Nat} {x:Hp} {k0 k1 k2 k3 k4 k5 R:Ba} (h:Stp w W g gh gi x k0 k1 k2 k3 k4 k5) (hs:Six W' gi k0 k1 k2 k3 k4 R) (hb:Below gi W W'):Stp w W' g gh gi x k0 k1 k2 k3 k4 R :=
 ⟨h.1.above hb h.2.2.2.2.1,h.2.1.above hb h.2.2.2.2.2.1,hs,h.2.2.2.1.trans (hb.mono (Nat.le_of_lt h.2.2.2.2.1)),h.2.2.2.2⟩
theorem Stp.opened' {w W W':World} {g gh gi:Nat} {x:Hp} {k0 k1 k2 k3 k4 k5 y0 y1 y2 y3 y4 y5:Ba} (h:Stp w W g gh gi x k0 k1 k2 k3 k4 k5) (hs:Six W' gi y0 y1 y2 y3 y4 y5) (hb:Below gi W W'):Stp w W' g gh gi x y0 y1 y2 y3 y4 y5 :=
 ⟨h.1.above hb h.2.2.2.2.1,h.2.1.above hb h.2.2.2.2.2.1,hs,h.2.2.2.1.trans (hb.mono (Nat.le_of_lt h.2.2.2.2.1)),h.2.2.2.2⟩
theorem Five.above {g:Nat} {w w':World} {b:Nat} {k0 k1 k2 k3 k4:Ba} (h:Five w b k0 k1 k2 k3 k4) (hb:Below g w w') (hlt:b < g):Five w' b k0 k1 k2 k3 k4:=by
 obtain⟨f,h0,h1,h2,h3,h4⟩:=h;have e:∀j,w'.cell? ⟨b,j,none⟩=w.cell? ⟨b,j,none⟩:=fun j=>hb.cell hlt
 have e2:∀j,w'.frozen? ⟨b,j,none⟩=w.frozen? ⟨b,j,none⟩:=fun j=>hb.frozen hlt
 exact⟨fun j=>by rw[e2,f],by rw[e,h0],by rw[e,h1],by rw[e,h2],by rw[e,h3],by rw[e,h4]⟩
theorem Stp.kh {w W:World} {g gh gi:Nat} {x:Hp} {k0 k1 k2 k3 k4 k5:Ba} (h:Stp w W g gh gi x k0 k1 k2 k3 k4 k5) (hK:Kh w):Kh W:=Kh.above hK h.2.2.2.2.2.2.2 h.2.2.2.1
theorem Stp.fin {w W:World} {g gh gi:Nat} {x:Hp} {k0 k1 k2 k3 k4 k5:Ba} (h:Stp w W g gh gi x k0 k1 k2 k3 k4 k5) (y:Hp) (n t s:Ba):zbN (zgM W g y n t s) g y n t s/\Below g w (zgM W g y n t s) :=
 ⟨h.1.put y n t s,zdc h.2.2.2.1 (Nat.le_refl _) y n t s⟩
def oph0:Oper:={ dst:=some 29,op := .load 144 (.tmp 8),type := 144, pos := "pack.go:36", after:=#[],guard:=none }
def oph1:Oper:={ dst:=some 30,op := .move (.tmp 1),type := 9, pos := "pack.go:36", after:=#[],guard:=none }
def oph2:Oper:={ dst:=some 31,op := .slice 9 (.tmp 30) (some (.const (Go.Value.int Go.IntKind.i64 248))) none none,type := 9, pos := "pack.go:36", after:=#[eD 1],guard:=none }
def oph3:Oper:={ dst:=some 32,op := .build 211 #[(0,Go.Operand.tmp 29),(1,Go.Operand.tmp 31)],type := 211, pos := "pack.go:36", after:=#[eD 0,eD 2],guard:=none }
def oph4:Oper:={ dst:=some 10,op := .alloc 211, type:=0,pos := "pack.go:36", after:=#[],guard:=none }
def oph5:Oper:={ dst:=none,op := .store 211 (.tmp 10) (.tmp 32),type:=0,pos := "pack.go:36", after:=#[eD 4,eD 3,eP 0,eP 1,eP 2,eP 3,eP 4],guard:=none }
theorem zgR (p b:Ba) (hb:b.size=504) (w:World) (hK:Hid (Kh w)) (x:Hp) (n s R UT:Ba) (UE:Int) (V:Array Value) (zn:n.size<=248) (zR:R.size=256)
  (V1:Hid (x.k=1->V=#[pdv x (n++R) (hdk s zcc 16) ⟨#[]⟩,.int .i64 0])) (V2:Hid (x.k≠1->UE≠0->V=#[pdz,.int .i64 UE])) (V3:Hid (x.k≠1->UE=0->V=#[pdv x ⟨#[]⟩ (hdk s zcc 16) UT,.int .i64 0]))
  (PE:Hid (∀w',Kh w'->Cl 162 #[.string p,.string (b.extract 0 248)] w' fun e w''=>e = .returned (.tuple #[hv x,.string n,kv s,.int .i64 0])/\Below w'.heap.size w' w''))
  (OP:Hid (∀w',Kh w'->Cl 243 #[.string (hdk s zax 32),.string (b.extract 248 504)] w' fun e w''=>e = .returned (.tuple #[.string R,.int .i64 0])/\Below w'.heap.size w' w''))
  (UW:Hid (∀w',Kh w'->Cl 244 #[.string (hdk s zax 32),.string (b.extract 248 504)] w' fun e w''=>e = .returned (.tuple #[.string UT,.int .i64 UE])/\Below w'.heap.size w' w'')) :
  Cl 86 #[.string p,.string b] w fun e w'=>e = .returned (.tuple V)/\Below w.heap.size w w':=by
 have g1:(b.size:Int)=504:=by omega
 have AD:∀w,(Op.stringOp .add n R).run Tryz.prog w = .ok (.string (n++R)) w:=fun w=>run_string_add_sum _ _ _ (by omega)
 obtain⟨H,hH⟩:∃H,b.extract 0 248=H:=⟨_,rfl⟩;obtain⟨B,hB⟩:∃B,b.extract 248 504=B:=⟨_,rfl⟩;rw[hH] at PE;rw[hB] at OP UW;have e5:b.extract 248 b.size=B:=by rw[hb];exact hB
 generalize n++R=NR at *;obtain⟨xk,xn,xu,xd,xid⟩:=x;simp only at V1 V2 V3;unfold hv kv at PE;generalize hdk s zaH 32=k0 at *;generalize hdk s zcb 32=k1 at *;generalize hdk s zax 32=k2 at *;generalize bld s=k3 at *;generalize hdk s zcc 16=k4 at *;simp only at PE;have OC:Hid (∀(g:Nat) (w:World),Six w g k0 k1 k2 k3 k4 B->Kh w->Cl 163 #[.pointer (some ⟨g,0,none⟩)] w fun e w'=>e = .returned (.tuple #[])/\Six w' g k0 k1 k2 k3 k4 R/\Below g w w'):=fun g w h1 h2=>znj g k0 k1 k2 k3 k4 B R w h1 h2 OP
 have TC:Hid (∀(g:Nat) (w:World),Six w g k0 k1 k2 k3 k4 B->Kh w->Cl 164 #[.pointer (some ⟨g,0,none⟩)] w fun e w'=>e = .returned (.tuple #[.string UT,.int .i64 UE])/\Below w.heap.size w w'):=fun g w h1 h2=>znk g k0 k1 k2 k3 k4 B UT UE w h1 h2 UW
 clear OP UW zn zR;go_enter Tryz.func86, Tryz.ntmps86;go_wp2_with fail;refine Calls.mono (PE.out _ (hK.out.alloc _)) ?_;rintro e w1 ⟨rfl,hb1⟩;have J:Hid (zbN w1 w.heap.size zh ⟨#[]⟩ ⟨#[]⟩ ⟨#[]⟩/\Below w.heap.size w w1/\w.heap.size < w1.heap.size /\ 0 < w.heap.size):=⟨(zbN.zero w).later hb1,chain ((Below.refl _ _).alloc (Nat.le_refl _) _) hb1,by have:=hb1.size;simp at this;omega,hK.out.1⟩;clear hb1 PE;generalize hgg:w.heap.size=g at *;go_wp2_with fail;obtain⟨A,hA⟩:∃A,(w1.alloc (.cells #[.int .i64 xk,.int .i64 xn,.int .i64 xu,.int .i64 xd,.string xid] 82)).alloc (.cells #[.string k0,.string k1,.string k2,.string k3,.string k4] 144)=A:=⟨_,rfl⟩;have J2:Hid (zbN A g zh ⟨#[]⟩ ⟨#[]⟩ ⟨#[]⟩/\zak A w1.heap.size ⟨xk,xn,xu,xd,xid⟩/\Five A (w1.heap.size+1) k0 k1 k2 k3 k4/\Below g w A/\g < w1.heap.size/\A.heap.size=w1.heap.size+2 /\ 0 < g):=by
  rw[<-hA];refine⟨(J.out.1.later ((Below.refl _ _).alloc (Nat.le_refl _) _)).later ((Below.refl _ _).alloc (Nat.le_refl _) _),(zak.fresh _ _ _ _ _ _ _).later ((Below.refl _ _).alloc (Nat.le_refl _) _),?_,(J.out.2.1.alloc (by have:=J.out.2.1.size;omega) _).alloc (by have:=J.out.2.1.size;simp;omega) _,J.out.2.2.1,by simp[go_sem],J.out.2.2.2⟩;have:=Five.new (w1.alloc (.cells #[.int .i64 xk,.int .i64 xn,.int .i64 xu,.int .i64 xd,.string xid] 82)) 144 k0 k1 k2 k3 k4
  simpa[go_sem] using this
 rw[hA];clear hA J;generalize w1.heap.size=gh at *;obtain⟨D0,hD0⟩:∃D,A.drew=D:=⟨_,rfl⟩;have J3:Hid (zbN D0 g zh ⟨#[]⟩ ⟨#[]⟩ ⟨#[]⟩/\zak D0 gh ⟨xk,xn,xu,xd,xid⟩/\Five D0 (gh+1) k0 k1 k2 k3 k4/\Below g w D0/\g < gh/\D0.heap.size=gh+2 /\ 0 < g):=by
  have hd:Below A.heap.size A D0:=by rw[<-hD0];exact (Below.refl _ _).drew
  have hz:D0.heap.size=A.heap.size:=by rw[<-hD0];simp[go_sem]
  exact⟨J2.out.1.later hd,J2.out.2.1.later hd,J2.out.2.2.1.later hd,J2.out.2.2.2.1.trans (hd.mono (by have:=J2.out.2.2.2.2;omega)),J2.out.2.2.2.2.1,by rw[hz];exact J2.out.2.2.2.2.2.1,J2.out.2.2.2.2.2.2⟩
 have HS0:Five A.drew (gh+1) k0 k1 k2 k3 k4:=by rw[hD0];exact J3.out.2.2.1
 clear J2;refine wp_region_noPanic ?_;refine wp_region_held_drew (S:=fun w'=>Five w' (gh+1) k0 k1 k2 k3 k4) (by kernel_rfl) (HS0) (fun hHeld => ?_);refine wT 0 oph0 ?_ ?_ ?_;rotate_left
 ·intro w' hSw;obtain⟨-,p0,p1,p2,p3,p4⟩:=hSw;unfold oph0;first|(go_simp;done)|(go_simp;with_reducible rfl)
 simp only[oph0,Act.put,wA,wB,wC];refine wT 1 oph1 ?_ ?_ ?_;rotate_left
 ·intro w' hSw;clear hSw;unfold oph1;first|(go_simp;done)|(go_simp;with_reducible rfl)
 simp only[oph1,Act.put,wA,wB,wC];refine wT 2 oph2 ?_ ?_ ?_;rotate_left
 ·intro w' hSw;clear hSw;unfold oph2;first|(go_simp;done)|(go_simp;with_reducible rfl)
 simp only[oph2,Act.put,wA,wB,wC];refine wT 3 oph3 ?_ ?_ ?_;rotate_left
 ·intro w' hSw;clear hSw;unfold oph3;first|(go_simp;done)|(go_simp;with_reducible rfl)
 simp only[oph3,Act.put,wA,wB,wC];rw[hD0] at hHeld;rw[hD0];clear hD0 HS0;refine wpAnyH_ready (rs:=[4]) (by kernel_rfl) (by simp) ?_;refine AllReadyH.cons (o:=oph4) rfl (fun KK hKK => ?_) AllReadyH.nil;unfold oph4;go_simp;have J4:Hid (Stp w (D0.alloc (.cells #[.string ⟨#[]⟩,.string ⟨#[]⟩,.string ⟨#[]⟩,.string ⟨#[]⟩,.string ⟨#[]⟩,.string ⟨#[]⟩] 211)) g gh D0.heap.size ⟨xk,xn,xu,xd,xid⟩ ⟨#[]⟩ ⟨#[]⟩ ⟨#[]⟩ ⟨#[]⟩ ⟨#[]⟩ ⟨#[]⟩/\Five (D0.alloc (.cells #[.string ⟨#[]⟩,.string ⟨#[]⟩,.string ⟨#[]⟩,.string ⟨#[]⟩,.string ⟨#[]⟩,.string ⟨#[]⟩] 211)) (gh+1) k0 k1 k2 k3 k4/\gh+1 < D0.heap.size):=by
  have hb:Below D0.heap.size D0 (D0.alloc (.cells #[.string ⟨#[]⟩,.string ⟨#[]⟩,.string ⟨#[]⟩,.string ⟨#[]⟩,.string ⟨#[]⟩,.string ⟨#[]⟩] 211)):=(Below.refl _ _).alloc (Nat.le_refl _) _;obtain⟨j1,j2,j3,j4,j5,j6,j7⟩:=J3.out;exact⟨⟨j1.later hb,j2.later hb,Six.new _ _ _ _ _ _ _ _,j4.trans (hb.mono (by omega)),by omega,by omega,j5,j7⟩,j3.later hb,by omega⟩
 refine hKK.out _ _ J4.out.2.1 (fun hHeldA => ?_);clear hKK KK hHeld;obtain⟨U,hU⟩:∃U,D0.alloc (.cells #[.string ⟨#[]⟩,.string ⟨#[]⟩,.string ⟨#[]⟩,.string ⟨#[]⟩,.string ⟨#[]⟩,.string ⟨#[]⟩] 211)=U:=⟨_,rfl⟩;obtain⟨gi,hgi⟩:∃gi,D0.heap.size=gi:=⟨_,rfl⟩;rw[hU,hgi] at J4;rw[hU] at hHeldA;rw[hU,hgi];clear hU hgi J3;obtain⟨fz,h0,h1,h2,h3,h4,h5⟩:=J4.out.1.2.2.1;have z0:=fz 0;have z1:=fz 1;have z2:=fz 2;have z3:=fz 3;have z4:=fz 4;have z5:=fz 5;clear fz;have PF:Hid (_/\_):=And.intro (J4.out.1.2.2.1.whole k0 k1 k2 k3 k4 B) (zgj (Below.refl gi U) (Nat.le_refl gi) (.string k0) (.string k1) (.string k2) (.string k3) (.string k4) (.string B));refine wpAnyH_ready (rs:=[5]) (by kernel_rfl) (by simp) ?_;refine AllReadyH.cons (o:=oph5) rfl (fun KK hKK => ?_) AllReadyH.nil;unfold oph5;go_simp;refine hKK.out _ _ (Five.above J4.out.2.1 PF.out.2 J4.out.2.2) (fun hHeldB => ?_);clear hKK KK hHeldA h0 h1 h2 h3 h4 h5 z0 z1 z2 z3 z4 z5;obtain⟨U2,hU2⟩:∃U2,((((((U.setCell ⟨gi,0,none⟩ (.string k0)).setCell ⟨gi,1,none⟩ (.string k1)).setCell ⟨gi,2,none⟩ (.string k2)).setCell ⟨gi,3,none⟩ (.string k3)).setCell ⟨gi,4,none⟩ (.string k4)).setCell ⟨gi,5,none⟩ (.string B))=U2:=⟨_,rfl⟩;rw[hU2] at PF hHeldB;rw[hU2];clear hU2;refine wpAnyH_done (by kernel_rfl) ?_ _;refine NoPanic.normal ?_;clear hHeldB;have ST:Hid (Stp w U2 g gh gi ⟨xk,xn,xu,xd,xid⟩ k0 k1 k2 k3 k4 B):=J4.out.1.opened' PF.out.1 PF.out.2;clear J4 PF;obtain⟨h0,h1,h2',h3,h4⟩:=ST.out.2.1.cells;obtain⟨-,c0,c1,c2,c3,c4,c5⟩:=ST.out.2.2.1
 by_cases hx:xk=1
 ·subst hx
  have hV:=V1.out rfl;go_wp2_with fail;refine Calls.mono (OC.out _ _ ST.out.2.2.1 (ST.out.kh hK.out)) ?_;rintro e W2 ⟨rfl,h2,hb2⟩;have S2:Hid (Stp w W2 g gh gi ⟨1,xn,xu,xd,xid⟩ k0 k1 k2 k3 k4 R):=ST.out.opened h2 hb2;clear h2 hb2 ST OC TC h0 h1 h2' h3 h4 c0 c1 c2 c3 c4 c5;obtain⟨h0,h1,h2,h3,h4⟩:=S2.out.2.1.cells;obtain⟨-,c0,c1,c2,c3,c4,c5⟩:=S2.out.2.2.1;obtain⟨⟨p0,p1,p2,p3,p4,p5,p6,p7⟩,z0,z1,z2,z3,z4,z5,z6,z7⟩:=zbN.cells (k:=0) (n:=0) (u:=0) (d:=0) (id:=⟨#[]⟩) S2.out.1;have F:Hid (_/\_):=S2.out.fin ⟨1,xn,xu,xd,xid⟩ NR k4 ⟨#[]⟩;unfold zgM at F;simp only at F;go_wp2;refine bodyPost_ret (v := .tuple V) ?_ rfl ⟨rfl,by rw[hgg];exact F.out.2⟩;rw[hV];exact zgQ _ _ g ⟨1,xn,xu,xd,xid⟩ _ _ _ 0 (by kernel_rfl) (by kernel_rfl) F.out.1
 ·have gx:(xk == 1)=false:=by rw[beq_eq_false_iff_ne];exact hx
  go_wp2_with fail;refine Calls.mono (TC.out _ _ ST.out.2.2.1 (ST.out.kh hK.out)) ?_;rintro e W2 ⟨rfl,hb2⟩;have S2:Hid (Stp w W2 g gh gi ⟨xk,xn,xu,xd,xid⟩ k0 k1 k2 k3 k4 B):=ST.out.later (Nat.le_of_lt ST.out.1.lt) hb2;clear hb2 ST OC TC h0 h1 h2' h3 h4 c0 c1 c2 c3 c4 c5;obtain⟨h0,h1,h2,h3,h4⟩:=S2.out.2.1.cells;obtain⟨-,c0,c1,c2,c3,c4,c5⟩:=S2.out.2.2.1;obtain⟨⟨p0,p1,p2,p3,p4,p5,p6,p7⟩,z0,z1,z2,z3,z4,z5,z6,z7⟩:=zbN.cells (k:=0) (n:=0) (u:=0) (d:=0) (id:=⟨#[]⟩) S2.out.1;by_cases hU:UE=0
  ·subst hU
   have hV:=V3.out hx rfl;have F:Hid (_/\_):=S2.out.fin ⟨xk,xn,xu,xd,xid⟩ ⟨#[]⟩ k4 UT;unfold zgM at F;simp only at F;go_wp2;refine bodyPost_ret (v := .tuple V) ?_ rfl ⟨rfl,by rw[hgg];exact F.out.2⟩;rw[hV];exact zgQ _ _ g ⟨xk,xn,xu,xd,xid⟩ _ _ _ 0 (by kernel_rfl) (by kernel_rfl) F.out.1
  ·have hV:=V2.out hx hU
   have F:Hid (_/\_):=S2.out.fin zh ⟨#[]⟩ ⟨#[]⟩ ⟨#[]⟩;unfold zgM zh at F;simp only at F;go_wp2;refine bodyPost_ret (v := .tuple V) ?_ rfl ⟨rfl,by rw[hgg];exact F.out.2⟩;rw[hV];exact zgQ _ _ g zh _ _ _ UE (by kernel_rfl) (by kernel_rfl) F.out.1
theorem zql (CL:Hid zuS) (CO:Hid zuM) (CU:Hid zlR):zdj:=fun p b w zp _ hK=>by
 by_cases hb:b.size=504
 ·have zH:(b.extract 0 248).size=248:=by rw[ByteArray.size_extract];omega
  have zB:(b.extract 248 504).size=256:=by rw[ByteArray.size_extract];omega
  have dB:(b.extract 248 504).data.toList=b.data.toList.drop 248:=by
   rw[ByteArray.data_extract,Array.toList_extract,List.extract_eq_take_drop,List.take_of_length_le];rw[List.length_drop,zaj];omega
  have PE:=fun w' (h:Kh w')=>CL.out p (b.extract 0 248) w' zp (by show (b.extract 0 248).size<=_;omega) h
  have eV:ppV p b=(match hpl p (b.extract 0 248) with
   | .error e=>#[pdz,.int .i64 e]
   | .ok (x,n,s)=>if x.k=1 then #[pdv x ⟨(n.data.toList++zaV (bdy s).data.toList (b.data.toList.drop 248)).toArray⟩ (rtg s) ⟨#[]⟩,.int .i64 0]
    else (match zbg (zaV (bdy s).data.toList (b.data.toList.drop 248)) with
     | none=>#[pdz,.int .i64 90]
     | some t=>#[pdv x ⟨#[]⟩ (rtg s) ⟨t.toArray⟩,.int .i64 0])):=by unfold ppV;rw[if_pos hb];rfl
  rw[zmd] at PE;rw[eV];cases hh:hpl p (b.extract 0 248) with
  | error e =>
   rw[hh] at PE;exact zqk p b hb w e (znl hh) (fun w' hw=>PE w' (hK.out.later hw))
  | ok v =>
   obtain⟨x,n,s⟩:=v;rw[hh] at PE;simp only;have OP:=fun w' (h:Kh w')=>CO.out (hdk s zax 32) (b.extract 248 504) w' (by rw[zaR];show (32:Nat)+64<=_;decide) (by show (b.extract 248 504).size<=_;omega) h
   have UW:=fun w' (h:Kh w')=>CU.out (hdk s zax 32) (b.extract 248 504) w' (by rw[zaR];show (32:Nat)+64<=_;decide) (by show (b.extract 248 504).size<=_;omega) h
   rw[zqN _ _ (by omega) (by omega)] at OP;have zR:(⟨(zaV (hdk s zax 32).data.toList (b.extract 248 504).data.toList).toArray⟩:Ba).size=256:=by
    rw[zbd,zdL _ _ (by rw[zaj];omega),zaj,zB]
   have eR:n++(⟨(zaV (hdk s zax 32).data.toList (b.extract 248 504).data.toList).toArray⟩:Ba)=⟨(n.data.toList++zaV (bdy s).data.toList (b.data.toList.drop 248)).toArray⟩:=by
    rw[<-dB];apply ByteArray.ext;simp[bdy]
   cases hT:zbg (zaV (bdy s).data.toList (b.data.toList.drop 248)) with
   | none =>
    rw[ziI _ _ (by omega) (by omega) (by rw[dB];exact hT)] at UW;refine zgR p b hb w hK x n s _ _ _ _ (zd6 hh) zR (fun hx => ?_) (fun hx _ => ?_) (fun _ h=>absurd h (by decide)) PE OP UW
    ·rw[if_pos hx,eR];rfl
    ·rw[if_neg hx]
   | some t =>
    rw[ziH _ _ t (by omega) (by omega) (by rw[dB];exact hT)] at UW;refine zgR p b hb w hK x n s _ _ _ _ (zd6 hh) zR (fun hx => ?_) (fun _ h=>absurd rfl h) (fun hx _ => ?_) PE OP UW
    ·rw[if_pos hx,eR];rfl
    ·rw[if_neg hx];rfl
 ·have eV:ppV p b=#[pdz,.int .i64 3]:=by unfold ppV;rw[if_neg hb]
  rw[eV];exact zkb p b hb w
theorem znm {l:List By} (h:∀x∈l,x.length=16) (hl:l.length<=10000):Sto.Gd (0,[],l) :=
 ⟨by show (0:Nat)<=_;decide,fun _=>rfl,fun t ht=>h t (by simpa using ht),by show 0+l.length<=_;omega⟩
abbrev c0:Ct:=⟨0,0,0,0,0,0⟩
theorem zdA (n d:Nat) (hd:d<=4096):(zej n d).size<=140737488355328:=by
 obtain⟨X,T,S,h,-⟩:=zv1 n d hd;omega
theorem zh5 (CM:Hid zi6) (CL:Hid zdj) (w:World) (K:Hid (Kh w)) :
  Cl 8 #[] w fun e w'=>e = .returned (.bool true)/\Bw w w':=by
 obtain⟨key,hkey⟩:∃k,pv zaU 0=k:=⟨_,rfl⟩;have zk:key.size=32:=by rw[<-hkey];exact zbY _ _
 obtain⟨PK,hPK⟩:∃P,zej 1 3=P:=⟨_,rfl⟩;have zP:PK.size<=140737488355328:=by rw[<-hPK];exact zdA 1 3 (by decide)
 obtain⟨X,zX,TA⟩:=zm8 (n:=20) (pool:=5) (l:=[]) (t:=Go.Proofs.Wh.St.init) (w:=[]) (c:=c0) 1 3 (by decide) (by decide) (by decide) (by simp) (by simp) (by decide) (by decide);have TB:=zm9 (n:=20) (pool:=5) (l:=[TG 1]) (t:=⟨4,1,[]⟩) (w:=[]) (c:=⟨1,0,0,0,0,0⟩) 1 3 (by decide) (by decide) (by decide) (by simp);rw[hkey,hPK] at TA TB;obtain⟨g16,hg⟩:∃g:∀x∈[TG 1],x.length=16,True:=⟨fun x hx=>by rw[List.mem_singleton] at hx;rw[hx];exact zja 1,trivial⟩;obtain⟨n0,hn0⟩:∃n,Nu 20 5 [] Go.Proofs.Wh.St.init [] c0=n:=⟨_,rfl⟩;obtain⟨n1,hn1⟩:∃n,Nu 20 5 [TG 1] ⟨0,1,[⟨4,1,1⟩]⟩ [(1,(7,X))] ⟨1,0,0,0,0,0⟩=n:=⟨_,rfl⟩;obtain⟨n2,hn2⟩:∃n,Nu 20 5 [TG 1] ⟨3,1,[⟨4,1,1⟩]⟩ [(1,(7,X))] ⟨1,0,0,0,0,0⟩=n:=⟨_,rfl⟩;obtain⟨n3,hn3⟩:∃n,Nu 20 5 [TG 1] ⟨4,1,[]⟩ [] ⟨1,0,0,0,0,0⟩=n:=⟨_,rfl⟩;obtain⟨n4,hn4⟩:∃n,Nu 20 5 [TG 1] ⟨4,1,[]⟩ [] ⟨1,0,0,0,1,0⟩=n:=⟨_,rfl⟩;have b0:Nb n0:=by rw[<-hn0];exact znc (by decide) (by decide) (by decide) (by decide) (fun x hx=>by cases hx) (znm (fun x hx=>by cases hx) (by decide))
 have b1:Nb n1:=by rw[<-hn1];exact znc (by decide) (by show (1:Nat)<=4096;omega) (by decide) (by show (1:Nat)<=900000;omega) (fun x hx=>by rw[List.mem_singleton] at hx;subst hx;exact Nat.le_refl _) (znm g16 (by show (1:Nat)<=10000;omega))
 have b2:Nb n2:=by rw[<-hn2];exact znc (by decide) (by show (1:Nat)<=4096;omega) (by decide) (by show (1:Nat)<=900000;omega) (fun x hx=>by rw[List.mem_singleton] at hx;subst hx;exact Nat.le_refl _) (znm g16 (by show (1:Nat)<=10000;omega))
 have b3:Nb n3:=by rw[<-hn3];exact znc (by decide) (by decide) (by decide) (by show (1:Nat)<=900000;omega) (fun x hx=>by cases hx) (znm g16 (by show (1:Nat)<=10000;omega))
 have i1:Ni n1:=by rw[<-hn1];exact⟨List.Perm.refl _,List.pairwise_singleton _ _⟩
 have i2:Ni n2:=by rw[<-hn2];exact⟨List.Perm.refl _,List.pairwise_singleton _ _⟩
 have s0:nwX key 5 (Go.Proofs.Dk.St.init 20)=((0,Ud 20 []),some n0):=by rw[<-hn0];exact zi9 key zk 5 20 (by decide) (by decide) (by decide)
 have s1:n0.takeP key PK=(0,n1):=by rw[<-hn0,<-hn1,TA];rfl
 have s2:n1.tickE 3=0/\n1.tickV 3=[]/\n1.tickS 3=n2:=by rw[<-hn1,<-hn2];exact⟨rfl,rfl,rfl⟩
 have s3:n2.tickE 4=0/\n2.tickV 4=[(7,X)]/\n2.tickS 4=n3:=by rw[<-hn2,<-hn3];exact⟨rfl,rfl,rfl⟩
 have s4:n3.takeP key PK=(170,n4):=by rw[<-hn3,<-hn4];exact TB
 have s5:ctv n4.c = .agg #[.int .i64 1,.int .i64 0,.int .i64 0,.int .i64 0,.int .i64 1,.int .i64 0]:=by rw[<-hn4];rfl
 clear hn0 hn1 hn2 hn3 hn4 TA TB hg g16;have ND:Hid _:=zvC (w:=w) (W:=w) (Below.refl _ _) 20 (by decide) (by decide);have PV:Hid (∀w,Kh w->Cl 13 #[.int .i64 0] w fun e w'=>e = .returned (.string key)/\Bw w w'):=fun w h=>by rw[<-hkey];exact zbH 0 (by decide) w h
 have MK:Hid (∀w,Kh w->Cl 25 #[.int .i64 1,.int .i64 3] w fun e w'=>e = .returned (.string PK)/\Bw w w'):=fun w h=>by rw[<-hPK];exact zeN CM 1 3 (by decide) w h
 have NW:Hid (∀p lab W,Do w p (Go.Proofs.Dk.St.init 20) lab W->Cl 18 #[.string key,.pointer (some ⟨p,0,none⟩),.int .i64 5] W fun e w'=>∃m,e = .returned (.tuple #[.pointer (some ⟨m,0,none⟩),.int .i64 0])/\∃lab',No w p m key n0 lab' w'):=fun p lab W h=>(zvD key 5 (by decide) (by decide) K h s0).mono fun e w' ⟨m,he,lab',h,_⟩=>⟨m,he,lab',h⟩
 have T1:Hid (∀p m lab W,No w p m key n0 lab W->Cl 24 #[.pointer (some ⟨m,0,none⟩),.string PK] W fun e w'=>e = .returned (.int .i64 0)/\∃lab',No w p m key n1 lab' w'):=fun p m lab W h=>by
  have:=zgO CL zk PK zP b0 K h;rw[s1] at this;exact this.mono fun e w' ⟨he,lab',h,_⟩=>⟨he,lab',h⟩
 have K1:Hid (∀p m lab W,No w p m key n1 lab W->Cl 23 #[.pointer (some ⟨m,0,none⟩),.int .i64 3] W fun e w'=>∃da dc,e = .returned (.tuple #[.slice da 0 dc,.int .i64 0])/\∃lab',No w p m key n2 lab' w'):=fun p m lab W h=>by
  have:=znb 3 i1 b1 h;rw[s2.1,s2.2.1,s2.2.2] at this;refine this.mono ?_;rintro e w' ⟨da,dn,dc,he,rfl,-,lab',h,-⟩;exact⟨da,dc,he,lab',h⟩
 have K2:Hid (∀p m lab W,No w p m key n2 lab W->Cl 23 #[.pointer (some ⟨m,0,none⟩),.int .i64 4] W fun e w'=>∃g dc,e = .returned (.tuple #[.slice (some ⟨g,0,none⟩) 1 dc,.int .i64 0])/\w'.cell? ⟨g,0,none⟩=some (.int .i64 7)/\w'.cell? ⟨g,1,none⟩=some (.string X)/\∃lab',No w p m key n3 lab' w'):=fun p m lab W h=>by
  have:=znb 4 i2 b2 h;rw[s3.1,s3.2.1,s3.2.2] at this;refine this.mono ?_;rintro e w' ⟨da,dn,dc,he,rfl,ho,lab',h,-⟩;obtain⟨g,rfl,c1,c2⟩:=zqd ho 0 (by simp);exact⟨g,dc,he,c1,c2,lab',h⟩
 have T2:Hid (∀p m lab W,No w p m key n3 lab W->Cl 24 #[.pointer (some ⟨m,0,none⟩),.string PK] W fun e w'=>e = .returned (.int .i64 170)/\∃lab',No w p m key n4 lab' w'):=fun p m lab W h=>by
  have:=zgO CL zk PK zP b3 K h;rw[s4] at this;exact this.mono fun e w' ⟨he,lab',h,_⟩=>⟨he,lab',h⟩
 have CT:Hid (∀p m lab W,No w p m key n4 lab W->Cl 16 #[.pointer (some ⟨m,0,none⟩)] W fun e w'=>e = .returned (.agg #[.int .i64 1,.int .i64 0,.int .i64 0,.int .i64 0,.int .i64 1,.int .i64 0])/\Bw W w'):=fun p m lab W h=>by
  have:=zjb h;rw[s5] at this;exact this
 have zX':((X.size:Nat):Int)=504:=by omega
 clear hkey hPK zP zX zk CM CL s0 s1 s2 s3 s4 s5 b0 b1 b2 b3 i1 i2;go_enter Tryz.func8, Tryz.ntmps8;go_wp2_with fail;refine Calls.mono ND.out ?_;rintro e w1 ⟨p,rfl,d1,hb1⟩;have D1:Hid (Do w p (Go.Proofs.Dk.St.init 20) (zbh (fun _=>9) w.heap.size 0) w1):=d1;clear d1 hb1 ND;go_wp2_with fail;refine Calls.mono (PV.out _ (K.out.later D1.out.below)) ?_;rintro e w2 ⟨rfl,hb2⟩;have D2:Hid (Do w p (Go.Proofs.Dk.St.init 20) (zbh (fun _=>9) w.heap.size 0) w2):=D1.out.later hb2;clear hb2 PV D1;go_wp2_with fail;refine Calls.mono (NW.out _ _ _ D2.out) ?_;rintro e w3 ⟨m,rfl,lab3,h3⟩;have N3:Hid (No w p m key n0 lab3 w3):=h3;clear h3 NW D2;go_wp2_with fail;refine Calls.mono (MK.out _ (K.out.later N3.out.below)) ?_;rintro e w4 ⟨rfl,hb⟩;have N4:Hid (No w p m key n0 lab3 w4):=N3.out.later hb;clear hb N3;go_wp2_with fail;refine Calls.mono (T1.out _ _ _ _ N4.out) ?_;rintro e w5 ⟨rfl,lab5,h5⟩;have N5:Hid (No w p m key n1 lab5 w5):=h5;clear h5 N4 T1;go_wp2_with fail;refine Calls.mono (K1.out _ _ _ _ N5.out) ?_;rintro e w6 ⟨da,dc,rfl,lab6,h6⟩;have N6:Hid (No w p m key n2 lab6 w6):=h6;clear h6 N5 K1;go_wp2_with fail;refine Calls.mono (K2.out _ _ _ _ N6.out) ?_;rintro e w7 ⟨g,dc2,rfl,c1,c2,lab7,h7⟩;have N7:Hid (No w p m key n3 lab7 w7):=h7;clear h7 N6 K2;go_wp2_with fail;refine Calls.mono (MK.out _ (K.out.later N7.out.below)) ?_;rintro e w8 ⟨rfl,hb⟩;have N8:Hid (No w p m key n3 lab7 w8):=N7.out.later hb;clear hb N7 MK c1 c2;go_wp2_with fail
 refine Calls.mono (T2.out _ _ _ _ N8.out) ?_;rintro e w9 ⟨rfl,lab9,h9⟩;have N9:Hid (No w p m key n4 lab9 w9):=h9;clear h9 N8 T2;go_wp2_with fail;refine Calls.mono (CT.out _ _ _ _ N9.out) ?_;rintro e w10 ⟨rfl,hb⟩;have FF:Hid (Bw w w10):=N9.out.below.trans (hb.mono N9.out.below.size);clear hb N9 CT;go_wp2;go_ret;exact⟨rfl,FF.out⟩
theorem zgS (x:Int) (N:Nat) (h0:0 < N) (h1:N<=1000) :
  ∃m:Nat,m < N/\∀w,Cl 22 #[.int .i64 x,.int .i64 (N:Int)] w fun e w'=>e = .returned (.int .i64 (m:Int))/\w'=w:=by
 have hN:(0:Int) < (N:Int):=by omega
 have r1:=Int.tmod_lt_of_pos x hN;have r2:=Int.lt_tmod_of_pos x hN;obtain⟨r,hr⟩:∃r,Int.tmod x (N:Int)=r:=⟨_,rfl⟩;rw[hr] at r1 r2;have s1:=Int.tmod_lt_of_pos (r+(N:Int)) hN;have s2:=Int.tmod_nonneg (N:Int) (show 0<=r+(N:Int) by omega);obtain⟨m,hm⟩:∃m:Nat,Int.tmod (r+(N:Int)) (N:Int)=(m:Int):=⟨(Int.tmod (r+(N:Int)) (N:Int)).toNat,by omega⟩;rw[hm] at s1;have z1:IntKind.i64.wrap (Int.tmod x (N:Int))=r:=by rw[hr,IntKind.wrap_i64];omega
 have z2:IntKind.i64.wrap (r+(N:Int))=r+(N:Int):=by rw[IntKind.wrap_i64];omega
 have z3:IntKind.i64.wrap (Int.tmod (r+(N:Int)) (N:Int))=(m:Int):=by rw[hm,IntKind.wrap_i64];omega
 have hN2:¬(N:Int)=0:=by omega
 refine⟨m,by omega,fun w => ?_⟩;clear r1 r2 s1 s2 h0 h1 hN;go_enter Tryz.func22, Tryz.ntmps22;go_wp2;go_ret;exact⟨rfl,rfl⟩
def tgz (z:Nat):List By:=(List.range z).map TG
theorem znn (z:Nat):tgz (z+1)=tgz z++[TG z]:=by unfold tgz;rw[List.range_succ,List.map_append];rfl
theorem zh6 (z:Nat):(tgz z).length=z:=by unfold tgz;simp
theorem zq7 (z:Nat):∀x∈tgz z,x.length=16:=fun x hx=>by
 obtain⟨i,-,rfl⟩:=List.mem_map.1 hx;exact zja i
theorem zno {z i:Nat} (hz:z<=10) (hi:i < 10):TG i∈tgz z↔i < z:=by
 unfold tgz;rw[List.mem_map];constructor
 ·rintro ⟨j,hj,e⟩
  have hj:=List.mem_range.1 hj;have:=Go.Proofs.Tg.tag_apart j i (by omega) hi e;omega
 ·exact fun h=>⟨i,List.mem_range.2 h,rfl⟩
structure Pq (pool z nw k:Nat) (c:Ct) (nd:Nd):Prop where
 ex:∃t ws,nd=Nu 60 pool (tgz z) t ws c/\t.now=nw/\ws.length=k/\t.l.length=k/\t.many<=z/\(∀x∈t.l,x.a=nw+1)/\(∀x∈ws,x.1<=c.on)
 ni:Ni nd
section
variable {pool z nw k:Nat} {c:Ct} {nd:Nd}
theorem Pq.nb (h:Pq pool z nw k c nd) (hp:pool<=5) (hz:z<=10) (hk:k<=10) (hc:c.on<=900000/\c.home<=900000/\c.loop<=900000/\c.drop<=900000/\c.twice<=900000/\c.bad<=900000):Nb nd:=by
 obtain⟨t,ws,rfl,h1,h2,h3,h4,h5,h6⟩:=h.ex;exact znc (by omega) (by omega) hc (by omega) h6 (znm (zq7 z) (by rw[zh6];omega))
theorem Pq.begin (pool:Nat):Pq pool 0 0 0 c0 (Nu 60 pool [] Go.Proofs.Wh.St.init [] c0) :=
 ⟨⟨Go.Proofs.Wh.St.init,[],rfl,rfl,rfl,rfl,Nat.le_refl _,(fun x hx=>by cases hx),(fun x hx=>by cases hx)⟩,⟨List.Perm.refl _,List.Pairwise.nil⟩⟩
theorem Pq.take (h:Pq pool z nw k c nd) (hz:z < 10) (hk:k < pool) (hn:nw<=5) (hp:pool<=5):∃nd',nd.takeP (pv zaU 0) (zej z 0)=(0,nd')/\Pq pool (z+1) nw (k+1) { c with on:=c.on+1 } nd':=by
 obtain⟨⟨t,ws,rfl,h1,h2,h3,h4,h5,h6⟩,I⟩:=h;obtain⟨X,zX,e⟩:=zm8 (n:=60) (pool:=pool) (l:=tgz z) (t:=t) (w:=ws) (c:=c) z 0 (by decide) (by omega) (by omega) (fun q=>by have:=(zno (z:=z) (by omega) hz).1 q;omega) (zq7 z) (by rw[zh6];omega) (by rw[zh6];omega);have hE:Go.Proofs.Wh.putE t ((t.now:Int)+1+((0:Nat):Int))=0:=by
  unfold Go.Proofs.Wh.putE Go.Proofs.Wh.maxT Go.Proofs.Wh.maxI;rw[if_neg (by omega),if_neg (by omega),if_neg (by omega)]
 have hs:Go.Proofs.Wh.putS t ((t.now:Int)+1+((0:Nat):Int)) ((c.on+1:Nat):Int)=⟨t.now,t.many+1,Go.Proofs.Wh.ins ⟨t.now+1,t.many+1,((c.on+1:Nat):Int)⟩ t.l⟩:=by
  unfold Go.Proofs.Wh.putS;rw[if_pos hE];have:((t.now:Int)+1+((0:Nat):Int)).toNat=t.now+1:=by omega
  rw[this]
 refine⟨_,e,⟨Go.Proofs.Wh.putS t ((t.now:Int)+1+((0:Nat):Int)) ((c.on+1:Nat):Int),ws++[(c.on+1,(7,X))],?_,?_,?_,?_,?_,?_,?_⟩,?_⟩
 ·rw[<-znn]
 ·rw[hs];exact h1
 ·rw[List.length_append,h2];rfl
 ·rw[hs]
  show (Go.Proofs.Wh.ins _ _).length=_;rw[Go.Proofs.Wh.ins_length,h3]
 ·rw[hs]
  show t.many+1<=z+1;omega
 ·rw[hs]
  intro x hx;rcases Go.Proofs.Wh.ins_mem.1 hx with rfl|hx
  ·show t.now+1=nw+1
   omega
  ·exact h5 x hx
 ·intro x hx
  rcases List.mem_append.1 hx with hx|hx
  ·have:=h6 x hx
   show x.1<=c.on+1;omega
  ·rw[List.mem_singleton] at hx
   subst hx;exact Nat.le_refl _
 ·have d:=I.did h6 ⟨1,7,0,((0:Nat):Int),⟨#[]⟩⟩ X (fun _=>hE)
  unfold Nd.did at d;rw[if_pos rfl] at d;exact⟨d.perm,d.apart⟩
theorem Pq.seen (h:Pq pool z nw k c nd) {i:Nat} (hi:i < z) (hz:z<=10) (hk:k < pool) (hn:nw<=5):∃nd',nd.takeP (pv zaU 0) (zej i 0)=(170,nd')/\Pq pool z nw k { c with twice:=c.twice+1 } nd':=by
 obtain⟨⟨t,ws,rfl,h1,h2,h3,h4,h5,h6⟩,I⟩:=h;exact⟨_,zm9 (n:=60) (pool:=pool) (l:=tgz z) (t:=t) (w:=ws) (c:=c) i 0 (by decide) (by omega) (by omega) ((zno hz (by omega)).2 hi),⟨t,ws,rfl,h1,h2,h3,h4,h5,h6⟩,⟨I.perm,I.apart⟩⟩
theorem Pq.full (h:Pq pool z nw k c nd) (i:Nat) (hk:pool<=k):∃nd',nd.takeP (pv zaU 0) (zej i 0)=(190,nd')/\Pq pool z nw k { c with bad:=c.bad+1 } nd':=by
 obtain⟨⟨t,ws,rfl,h1,h2,h3,h4,h5,h6⟩,I⟩:=h;exact⟨_,ztn (n:=60) (pool:=pool) (l:=tgz z) (t:=t) (w:=ws) (c:=c) i 0 (by decide) (by omega),⟨t,ws,rfl,h1,h2,h3,h4,h5,h6⟩,⟨I.perm,I.apart⟩⟩
theorem Pq.tick (h:Pq pool z nw k c nd) (hn:nw<=5):nd.tickE ((nw:Int)+1)=0/\(nd.tickV ((nw:Int)+1)).length=k/\Pq pool z (nw+1) 0 c (nd.tickS ((nw:Int)+1)):=by
 have I2:=h.ni.tick ((nw:Int)+1);obtain⟨⟨t,ws,rfl,h1,h2,h3,h4,h5,h6⟩,I⟩:=h;have hE:Go.Proofs.Wh.advE t ((nw:Int)+1)=0:=by
  unfold Go.Proofs.Wh.advE Go.Proofs.Wh.maxT;rw[if_neg (by omega),if_neg (by omega)]
 have hd:Go.Proofs.Wh.due ((nw:Int)+1) t.l=t.l:=by
  unfold Go.Proofs.Wh.due;rw[List.filter_eq_self];intro x hx;have:=h5 x hx;simp;omega
 have hr:Go.Proofs.Wh.rest ((nw:Int)+1) t.l=[]:=by
  unfold Go.Proofs.Wh.rest;rw[List.filter_eq_nil_iff];intro x hx;have:=h5 x hx;simp;omega
 have hV:Go.Proofs.Wh.advV t ((nw:Int)+1)=t.l.map Go.Proofs.Wh.Tm.i:=by
  unfold Go.Proofs.Wh.advV;rw[if_pos hE,hd]
 have hS:Go.Proofs.Wh.advS t ((nw:Int)+1)=⟨nw+1,t.many,[]⟩:=by
  unfold Go.Proofs.Wh.advS;rw[if_pos hE,hr];have:((nw:Int)+1).toNat=nw+1:=by omega
  rw[this]
 have hw:(ws.filter fun p=>!decide ((p.1:Int)∈Go.Proofs.Wh.advV t ((nw:Int)+1)))=[]:=by
  have hl:=I2.len;have e1:((Nu 60 pool (tgz z) t ws c).tickS ((nw:Int)+1)).t.l.length=0:=by
   show (Go.Proofs.Wh.advS t ((nw:Int)+1)).l.length=0;rw[hS];rfl
  rw[e1] at hl;exact List.length_eq_zero_iff.1 hl.symm
 refine⟨hE,?_,⟨Go.Proofs.Wh.advS t ((nw:Int)+1),_,zto _,?_,?_,?_,?_,?_,?_⟩,I2⟩
 ·show ((Go.Proofs.Wh.advV t ((nw:Int)+1)).map _).length=k
  rw[List.length_map,hV,List.length_map,h3]
 ·rw[hS]
 ·rw[hw];rfl
 ·rw[hS];rfl
 ·rw[hS];exact h4
 ·rw[hS];intro x hx;cases hx
 ·rw[hw];intro x hx;cases hx
end
section
variable {pool z nw k:Nat} {c:Ct} {nd:Nd}
theorem Pq.cts (h:Pq pool z nw k c nd):nd.c=c:=by
 obtain⟨⟨t,ws,rfl,-⟩,-⟩:=h;rfl
theorem Pq.wts (h:Pq pool z nw k c nd):nd.w.length=k:=by
 obtain⟨⟨t,ws,rfl,-,h2,-⟩,-⟩:=h;exact h2
end
def Po (w:World) (p m pool z nw k:Nat) (c:Ct) (W:World):Prop:=∃nd lab,Pq pool z nw k c nd/\No w p m (pv zaU 0) nd lab W
section
variable {w W:World} {p m pool z nw k:Nat} {c:Ct}
theorem Po.below (h:Po w p m pool z nw k c W):Bw w W:=by
 obtain⟨nd,lab,-,h⟩:=h;exact h.below
theorem Po.later (h:Po w p m pool z nw k c W) {W':World} (hb:Bw W W'):Po w p m pool z nw k c W':=by
 obtain⟨nd,lab,h0,h⟩:=h;exact⟨nd,lab,h0,h.later hb⟩
def Cs (c:Ct):Prop:=c.on<=900000/\c.home<=900000/\c.loop<=900000/\c.drop<=900000/\c.twice<=900000/\c.bad<=900000
theorem zq8 (CL:Hid zdj) (K:Hid (Kh w)) (hc:Cs c) (hz:z < 10) (hk:k < pool) (hn:nw<=5) (hp:pool<=5) (h:Po w p m pool z nw k c W) :
  Cl 24 #[.pointer (some ⟨m,0,none⟩),.string (zej z 0)] W fun e w'=>e = .returned (.int .i64 0)/\Po w p m pool (z+1) nw (k+1) { c with on:=c.on+1 } w':=by
 obtain⟨nd,lab,P0,N⟩:=h;obtain⟨nd',e1,P1⟩:=P0.take hz hk hn hp;have:=zgO CL (zbY _ _) (zej z 0) (zdA z 0 (by decide)) (P0.nb hp (by omega) (by omega) hc) K N;rw[e1] at this;exact this.mono fun e w' ⟨he,lab',h,_⟩=>⟨he,nd',lab',P1,h⟩
theorem zvE (CL:Hid zdj) (K:Hid (Kh w)) (hc:Cs c) {i:Nat} (hi:i < z) (hz:z<=10) (hk:k < pool) (hn:nw<=5) (hp:pool<=5) (h:Po w p m pool z nw k c W) :
  Cl 24 #[.pointer (some ⟨m,0,none⟩),.string (zej i 0)] W fun e w'=>e = .returned (.int .i64 170)/\Po w p m pool z nw k { c with twice:=c.twice+1 } w':=by
 obtain⟨nd,lab,P0,N⟩:=h;obtain⟨nd',e1,P1⟩:=P0.seen hi hz hk hn;have:=zgO CL (zbY _ _) (zej i 0) (zdA i 0 (by decide)) (P0.nb hp hz (by omega) hc) K N;rw[e1] at this;exact this.mono fun e w' ⟨he,lab',h,_⟩=>⟨he,nd',lab',P1,h⟩
theorem zq9 (CL:Hid zdj) (K:Hid (Kh w)) (hc:Cs c) (i:Nat) (hz:z<=10) (hk:pool<=k) (hk2:k<=10) (hp:pool<=5) (h:Po w p m pool z nw k c W) :
  Cl 24 #[.pointer (some ⟨m,0,none⟩),.string (zej i 0)] W fun e w'=>e = .returned (.int .i64 190)/\Po w p m pool z nw k { c with bad:=c.bad+1 } w':=by
 obtain⟨nd,lab,P0,N⟩:=h;obtain⟨nd',e1,P1⟩:=P0.full i hk;have:=zgO CL (zbY _ _) (zej i 0) (zdA i 0 (by decide)) (P0.nb hp hz hk2 hc) K N;rw[e1] at this;exact this.mono fun e w' ⟨he,lab',h,_⟩=>⟨he,nd',lab',P1,h⟩
theorem zvF (hc:Cs c) (hz:z<=10) (hk:k<=10) (hn:nw<=5) (hp:pool<=5) (h:Po w p m pool z nw k c W) :
  Cl 23 #[.pointer (some ⟨m,0,none⟩),.int .i64 ((nw:Int)+1)] W fun e w'=>∃da dc,e = .returned (.tuple #[.slice da k dc,.int .i64 0])/\Po w p m pool z (nw+1) 0 c w':=by
 obtain⟨nd,lab,P0,N⟩:=h;obtain⟨e1,e2,P1⟩:=P0.tick hn;have:=znb ((nw:Int)+1) P0.ni (P0.nb hp hz hk hc) N;rw[e1] at this;refine this.mono ?_;rintro e w' ⟨da,dn,dc,he,hd,-,lab',h,-⟩;rw[e2] at hd;subst hd;exact⟨da,dc,he,_,lab',P1,h⟩
theorem ztt (h:Po w p m pool z nw k c W):Cl 17 #[.pointer (some ⟨m,0,none⟩)] W fun e w'=>e = .returned (.int .i64 (k:Int))/\w'=W:=by
 obtain⟨nd,lab,P0,N⟩:=h;have:=ztp N;rw[P0.wts] at this;exact this
theorem zqm (h:Po w p m pool z nw k c W):Cl 16 #[.pointer (some ⟨m,0,none⟩)] W fun e w'=>e = .returned (ctv c)/\Bw W w':=by
 obtain⟨nd,lab,P0,N⟩:=h;have:=zjb N;rw[P0.cts] at this;exact this
end
theorem zvG (M P Q K1 K2 E3:Nat) (h1:K1=min M P) (h2:K2=min M Q) (h3:E3=(M - P)+(M - Q)) (h4:Q=2*P):(⟨max K1 (min M Q),0,0,0,min M P,M - K1+(M - min M Q)⟩:Ct)=⟨K2,0,0,0,K1,E3⟩:=by
 have e1:max K1 (min M Q)=K2:=by omega
 have e2:M - K1+(M - min M Q)=E3:=by omega
 rw[e1,e2,<-h1]
theorem zgT (CM:Hid zi6) (CL:Hid zdj) (x y:Int) (w:World) (K:Hid (Kh w)) :
  Cl 6 #[.int .i64 x,.int .i64 y] w fun e w'=>e = .returned (.bool true)/\Bw w w':=by
 obtain⟨r,hr,AP⟩:=zgS x 5 (by decide) (by decide);obtain⟨M,hM,AM⟩:=zgS y 9 (by decide) (by decide);obtain⟨P,hP⟩:∃P,r+1=P:=⟨_,rfl⟩;obtain⟨Q,hQ⟩:∃Q,2*P=Q:=⟨_,rfl⟩;have HA:Hid (∀w,Cl 22 #[.int .i64 x,.int .i64 5] w fun e w'=>e = .returned (.int .i64 (r:Int))/\w'=w):=AP;have HM:Hid (∀w,Cl 22 #[.int .i64 y,.int .i64 9] w fun e w'=>e = .returned (.int .i64 (M:Int))/\w'=w):=AM;have B:Hid (1<=P/\P<=5/\M<=8/\Q=2*P):=⟨by omega,by omega,by omega,hQ.symm⟩;have z1:IntKind.i64.wrap (1+(r:Int))=(P:Int):=by rw[IntKind.wrap_i64];omega
 have z1':wrap64 (1+(r:Int))=(P:Int):=by unfold wrap64;omega
 have z2:IntKind.i64.wrap (2*(P:Int))=(Q:Int):=by rw[IntKind.wrap_i64];omega
 have z2':wrap64 (2*(P:Int))=(Q:Int):=by unfold wrap64;omega
 obtain⟨K1,hK1⟩:∃K1,min M P=K1:=⟨_,rfl⟩;obtain⟨K2,hK2⟩:∃K2,min M Q=K2:=⟨_,rfl⟩;have m1:min (M:Int) (P:Int)=(K1:Int):=by omega
 have m2:min (M:Int) (Q:Int)=(K2:Int):=by omega
 obtain⟨D1,hD1⟩:∃D:Int,(M:Int) - (P:Int)=D:=⟨_,rfl⟩;obtain⟨D2,hD2⟩:∃D:Int,(M:Int) - (Q:Int)=D:=⟨_,rfl⟩;obtain⟨E1,hE1⟩:∃E,M - P=E:=⟨_,rfl⟩;obtain⟨E2,hE2⟩:∃E,M - Q=E:=⟨_,rfl⟩;obtain⟨E3,hE3⟩:∃E,E1+E2=E:=⟨_,rfl⟩;have d1:IntKind.i64.wrap ((M:Int) - (P:Int))=D1:=by rw[IntKind.wrap_i64];omega
 have d1':wrap64 ((M:Int) - (P:Int))=D1:=by unfold wrap64;omega
 have d2:IntKind.i64.wrap ((M:Int) - (Q:Int))=D2:=by rw[IntKind.wrap_i64];omega
 have d2':wrap64 ((M:Int) - (Q:Int))=D2:=by unfold wrap64;omega
 have x1:max 0 D1=(E1:Int):=by omega
 have x2:max 0 D2=(E2:Int):=by omega
 have x3:IntKind.i64.wrap ((E1:Int)+(E2:Int))=(E3:Int):=by rw[IntKind.wrap_i64];omega
 have x3':wrap64 ((E1:Int)+(E2:Int))=(E3:Int):=by unfold wrap64;omega
 have EK:Hid (K1=min M P/\K2=min M Q/\E3=(M - P)+(M - Q)):=⟨hK1.symm,hK2.symm,by omega⟩;clear hr hM hP hQ hK1 hK2 hD1 hD2 hE1 hE2 hE3 AP AM;obtain⟨key,hkey⟩:∃k,pv zaU 0=k:=⟨_,rfl⟩;have ND:Hid _:=zvC (w:=w) (W:=w) (Below.refl _ _) 60 (by decide) (by decide);have WK:Hid (∀w,Kh w->Cl 8 #[] w fun e w'=>e = .returned (.bool true)/\Bw w w'):=fun w h=>zh5 CM CL w h
 have PV:Hid (∀w,Kh w->Cl 13 #[.int .i64 0] w fun e w'=>e = .returned (.string key)/\Bw w w'):=fun w h=>by rw[<-hkey];exact zbH 0 (by decide) w h
 have MK:Hid (∀(i:Nat) w,i < 256->Kh w->Cl 25 #[.int .i64 (i:Int),.int .i64 0] w fun e w'=>e = .returned (.string (zej i 0))/\Bw w w'):=fun i w hi h=>zeN CM i 0 hi w h
 have NW:Hid (∀p lab W,Do w p (Go.Proofs.Dk.St.init 60) lab W->Cl 18 #[.string key,.pointer (some ⟨p,0,none⟩),.int .i64 (P:Int)] W fun e w'=>∃m,e = .returned (.tuple #[.pointer (some ⟨m,0,none⟩),.int .i64 0])/\Po w p m P 0 0 0 c0 w'):=fun p lab W h=>by
  rw[<-hkey];exact (zvD (pv zaU 0) (P:Int) (by decide) (by decide) K h (zi9 (pv zaU 0) (zbY _ _) P 60 B.out.1 (by have:=B.out.2.1;omega) (by decide))).mono fun e w' ⟨m,he,lab',h,_⟩=>⟨m,he,_,lab',Pq.begin P,h⟩
 clear hkey;go_enter Tryz.func6, Tryz.ntmps6;go_wp2_with fail;refine Calls.mono ND.out ?_;rintro e w1 ⟨p,rfl,d1,hb1⟩;have D1:Hid (Do w p (Go.Proofs.Dk.St.init 60) (zbh (fun _=>9) w.heap.size 0) w1):=d1;clear d1 hb1 ND;go_wp2_with fail;refine Calls.mono (WK.out _ (K.out.later D1.out.below)) ?_;rintro e w2 ⟨rfl,hb2⟩;have D2:Hid (Do w p (Go.Proofs.Dk.St.init 60) (zbh (fun _=>9) w.heap.size 0) w2):=D1.out.later hb2;clear hb2 WK D1;go_wp2_with fail;refine Calls.mono (HA.out _) ?_;rintro e w3 ⟨rfl,hb⟩;subst hb;go_wp2_with fail;refine Calls.mono (HM.out _) ?_;rintro e w3 ⟨rfl,hb⟩;subst hb;go_wp2_with fail;refine Calls.mono (PV.out _ (K.out.later D2.out.below)) ?_;rintro e w4 ⟨rfl,hb⟩;have D4:Hid (Do w p (Go.Proofs.Dk.St.init 60) (zbh (fun _=>9) w.heap.size 0) w4):=D2.out.later hb;clear hb PV D2 HA HM;go_wp2_with fail;refine Calls.mono (NW.out _ _ _ D4.out) ?_;rintro e w5 ⟨m,rfl,h5⟩;have N5:Hid (Po w p m P 0 0 0 c0 w5):=h5;clear h5 NW D4;go_wp2;go_loopw [46] (fun i wq=>∃(k:Nat),k<=M/\i = .int .i64 (k:Int)/\Hid (Po w p m P (min k P) 0 (min k P) ⟨min k P,0,0,0,0,k - min k P⟩ wq)) (fun i _=>M - (intOf i).toNat)
 case atStart =>
  refine⟨0,Nat.zero_le _,rfl,?_⟩;have e:min 0 P=0:=by omega
  show Po w p m P (min 0 P) 0 (min 0 P) ⟨min 0 P,0,0,0,0,0 - min 0 P⟩ w5;rw[e];exact N5.out
 case round =>
  obtain⟨k,hk,rfl,I⟩:=hrel;clear N5;by_cases hlt:k < M
  ·have g1:(k:Int) < (M:Int):=by omega
   have k8:k < 256:=by have:=B.out.2.2.1;omega
   by_cases hkp:k < P
   ·have g2:(k:Int) < (P:Int):=by omega
    have em:min k P=k:=by omega
    rw[em] at I;go_wp2_with fail;refine Calls.mono (MK.out k _ k8 (K.out.later I.out.below)) ?_;rintro e w6 ⟨rfl,hb⟩;have I6:Hid _:=I.out.later hb;have TK:Hid _:=zq8 CL K (by unfold Cs;exact⟨by show k<=_;omega,by show 0<=_;omega,by show 0<=_;omega,by show 0<=_;omega,by show 0<=_;omega,by show k - k<=_;omega⟩) (by have:=B.out.2.2.1;omega) hkp (by decide) B.out.2.1 I6.out;clear hb I em;go_wp2_with fail;refine Calls.mono TK.out ?_;rintro e w7 ⟨rfl,h7⟩;have I7:Hid (Po w p m P (min (k+1) P) 0 (min (k+1) P) ⟨min (k+1) P,0,0,0,0,k+1 - min (k+1) P⟩ w7):=by
     show Po w p m P (min (k+1) P) 0 (min (k+1) P) ⟨min (k+1) P,0,0,0,0,k+1 - min (k+1) P⟩ w7;rw[show min (k+1) P=k+1 by omega,show k+1 - (k+1)=k - k by omega];exact h7
    clear h7 TK I6;go_wp2;go_roundw
    case rel=>exact⟨k+1,by omega,by go_num,I7.out⟩
    case measure=>simp[intOf];omega
   ·have g2:¬(k:Int) < (P:Int):=by omega
    have em:min k P=P:=by omega
    rw[em] at I;go_wp2_with fail;refine Calls.mono (MK.out k _ k8 (K.out.later I.out.below)) ?_;rintro e w6 ⟨rfl,hb⟩;have I6:Hid _:=I.out.later hb;have TK:Hid _:=zq9 CL K (by unfold Cs;have:=B.out.2.1;exact⟨by show P<=_;omega,by show 0<=_;omega,by show 0<=_;omega,by show 0<=_;omega,by show 0<=_;omega,by show k - P<=_;omega⟩) k (by have:=B.out.2.1;omega) (Nat.le_refl _) (by have:=B.out.2.1;omega) B.out.2.1 I6.out;clear hb I em;go_wp2_with fail;refine Calls.mono TK.out ?_;rintro e w7 ⟨rfl,h7⟩;have I7:Hid (Po w p m P (min (k+1) P) 0 (min (k+1) P) ⟨min (k+1) P,0,0,0,0,k+1 - min (k+1) P⟩ w7):=by
     show Po w p m P (min (k+1) P) 0 (min (k+1) P) ⟨min (k+1) P,0,0,0,0,k+1 - min (k+1) P⟩ w7;rw[show min (k+1) P=P by omega,show k+1 - P=k - P+1 by omega];exact h7
    clear h7 TK I6;go_wp2;go_roundw
    case rel=>exact⟨k+1,by omega,by go_num,I7.out⟩
    case measure=>simp[intOf];omega
  ·have g1:¬(k:Int) < (M:Int):=by omega
   have ek:k=M:=by omega
   subst ek;have I2:Hid (Po w p m P K1 0 K1 ⟨K1,0,0,0,0,k - K1⟩ wr):=by rw[EK.out.1];exact I.out
   clear I;have TI:Hid (Cl 23 #[.pointer (some ⟨m,0,none⟩),.int .i64 1] wr fun e w'=>∃da dc,e = .returned (.tuple #[.slice da K1 dc,.int .i64 0])/\Po w p m P K1 1 0 ⟨K1,0,0,0,0,k - K1⟩ w'):=zvF (nw:=0) (by unfold Cs;have:=B.out;have:=EK.out.1;exact⟨by show K1<=_;omega,by show 0<=_;omega,by show 0<=_;omega,by show 0<=_;omega,by show 0<=_;omega,by show k - K1<=_;omega⟩) (by have:=B.out;have:=EK.out.1;omega) (by have:=B.out;have:=EK.out.1;omega) (by decide) B.out.2.1 I2.out;go_wp2_with fail;refine Calls.mono TI.out ?_;rintro e w6 ⟨da,dc,rfl,h6⟩;have I6:Hid (Po w p m P K1 1 0 ⟨K1,0,0,0,0,k - K1⟩ w6):=h6;have WA:Hid (Cl 17 #[.pointer (some ⟨m,0,none⟩)] w6 fun e w'=>e = .returned (.int .i64 0)/\w'=w6):=ztt h6;clear h6 TI I2;go_wp2_with fail;refine Calls.mono WA.out ?_;rintro e w7 ⟨rfl,hb⟩;subst hb;clear WA;obtain⟨wo,rfl⟩:∃V,V=wr:=⟨_,rfl⟩;go_wp2;go_loopw [89] (fun i wq=>∃(j:Nat),j<=k/\i = .int .i64 (j:Int)/\Hid (Po w p m P (max K1 (min j Q)) 1 (max K1 (min j Q) - K1) ⟨max K1 (min j Q),0,0,0,min j P,k - K1+(j - min j Q)⟩ wq)) (fun i _=>k - (intOf i).toNat)
   case atStart =>
    refine⟨0,Nat.zero_le _,rfl,?_⟩;show Po w p m P (max K1 (min 0 Q)) 1 (max K1 (min 0 Q) - K1) ⟨max K1 (min 0 Q),0,0,0,min 0 P,k - K1+(0 - min 0 Q)⟩ w7
    rw[show max K1 (min 0 Q)=K1 by omega,show min 0 P=0 by omega,show K1 - K1=0 by omega,show k - K1+(0 - min 0 Q)=k - K1 by omega];exact I6.out
   case round =>
    obtain⟨j,hj,rfl,I⟩:=hrel;clear I6;by_cases hlt2:j < k
    ·have g3:(j:Int) < (k:Int):=by omega
     have k8:j < 256:=by have:=B.out.2.2.1;omega
     by_cases hkp:j < P
     ·have g2:(j:Int) < (P:Int):=by omega
      have em:Hid (max K1 (min j Q)=K1/\min j P=j/\min j Q=j/\j < K1/\K1<=5):=by show max K1 (min j Q)=K1/\min j P=j/\min j Q=j/\j < K1/\K1<=5;have:=B.out;have:=EK.out.1;omega
      rw[em.out.1,em.out.2.1,em.out.2.2.1] at I;have eN:Hid (max K1 (min (j+1) Q)=K1/\min (j+1) P=j+1/\min (j+1) Q=j+1):=by show max K1 (min (j+1) Q)=K1/\min (j+1) P=j+1/\min (j+1) Q=j+1;have:=B.out;have:=EK.out.1;omega
      go_wp2_with fail;refine Calls.mono (MK.out j _ k8 (K.out.later I.out.below)) ?_;rintro e w6 ⟨rfl,hb⟩;have I6:Hid _:=I.out.later hb;have TK:Hid _:=zvE (i:=j) CL K (by unfold Cs;have:=B.out;have:=em.out;exact⟨by show K1<=_;omega,by show 0<=_;omega,by show 0<=_;omega,by show 0<=_;omega,by show j<=_;omega,by show k - K1+(j - j)<=_;omega⟩) (by have:=em.out;omega) (by have:=em.out;omega) (by have:=B.out;omega) (by decide) B.out.2.1 I6.out;clear hb I em;go_wp2_with fail;refine Calls.mono TK.out ?_;rintro e w8 ⟨rfl,h7⟩;have I7:Hid (Po w p m P (max K1 (min (j+1) Q)) 1 (max K1 (min (j+1) Q) - K1) ⟨max K1 (min (j+1) Q),0,0,0,min (j+1) P,k - K1+(j+1 - min (j+1) Q)⟩ w8):=by
       show Po w p m P (max K1 (min (j+1) Q)) 1 (max K1 (min (j+1) Q) - K1) ⟨max K1 (min (j+1) Q),0,0,0,min (j+1) P,k - K1+(j+1 - min (j+1) Q)⟩ w8;rw[eN.out.1,eN.out.2.1,eN.out.2.2,show j+1 - (j+1)=j - j by omega];exact h7
      clear h7 TK I6 eN;go_wp2;go_roundw
      case rel=>exact⟨j+1,by omega,by go_num,I7.out⟩
      case measure=>simp[intOf];omega
     ·have g2:¬(j:Int) < (P:Int):=by omega
      by_cases hkq:j < Q
      ·have g4:(j:Int) < (Q:Int):=by omega
       have g5:¬(Q:Int)<=(j:Int):=by omega
       have em:Hid (max K1 (min j Q)=j/\min j P=P/\min j Q=j/\K1=P):=by show max K1 (min j Q)=j/\min j P=P/\min j Q=j/\K1=P;have:=B.out;have:=EK.out.1;omega
       rw[em.out.1,em.out.2.1,em.out.2.2.1] at I;have eN:Hid (max K1 (min (j+1) Q)=j+1/\min (j+1) P=P/\min (j+1) Q=j+1):=by show max K1 (min (j+1) Q)=j+1/\min (j+1) P=P/\min (j+1) Q=j+1;have:=B.out;have:=EK.out.1;omega
       go_wp2_with fail;refine Calls.mono (MK.out j _ k8 (K.out.later I.out.below)) ?_;rintro e w6 ⟨rfl,hb⟩;have I6:Hid _:=I.out.later hb;have TK:Hid _:=zq8 CL K (by unfold Cs;have:=B.out;have:=em.out;exact⟨by show j<=_;omega,by show 0<=_;omega,by show 0<=_;omega,by show 0<=_;omega,by show P<=_;omega,by show k - K1+(j - j)<=_;omega⟩) (by have:=B.out;have:=em.out;omega) (by have:=B.out;have:=em.out;omega) (by decide) B.out.2.1 I6.out;have eK:Hid (j - K1+1=j+1 - K1):=by show j - K1+1=j+1 - K1;have:=em.out;omega
       clear hb I em;go_wp2_with fail;refine Calls.mono TK.out ?_;rintro e w8 ⟨rfl,h7⟩;have I7:Hid (Po w p m P (max K1 (min (j+1) Q)) 1 (max K1 (min (j+1) Q) - K1) ⟨max K1 (min (j+1) Q),0,0,0,min (j+1) P,k - K1+(j+1 - min (j+1) Q)⟩ w8):=by
        show Po w p m P (max K1 (min (j+1) Q)) 1 (max K1 (min (j+1) Q) - K1) ⟨max K1 (min (j+1) Q),0,0,0,min (j+1) P,k - K1+(j+1 - min (j+1) Q)⟩ w8;rw[eN.out.1,eN.out.2.1,eN.out.2.2,show j+1 - (j+1)=j - j by omega,<-eK.out];exact h7
       clear h7 TK I6 eN eK;go_wp2;go_roundw
       case rel=>exact⟨j+1,by omega,by go_num,I7.out⟩
       case measure=>simp[intOf];omega
      ·have g4:¬(j:Int) < (Q:Int):=by omega
       have g5:(Q:Int)<=(j:Int):=by omega
       have em:Hid (max K1 (min j Q)=Q/\min j P=P/\min j Q=Q/\K1=P):=by show max K1 (min j Q)=Q/\min j P=P/\min j Q=Q/\K1=P;have:=B.out;have:=EK.out.1;omega
       rw[em.out.1,em.out.2.1,em.out.2.2.1] at I;have eN:Hid (max K1 (min (j+1) Q)=Q/\min (j+1) P=P/\min (j+1) Q=Q):=by show max K1 (min (j+1) Q)=Q/\min (j+1) P=P/\min (j+1) Q=Q;have:=B.out;have:=EK.out.1;omega
       go_wp2_with fail;refine Calls.mono (MK.out j _ k8 (K.out.later I.out.below)) ?_;rintro e w6 ⟨rfl,hb⟩;have I6:Hid _:=I.out.later hb;have TK:Hid _:=zq9 CL K (by unfold Cs;have:=B.out;have:=em.out;exact⟨by show Q<=_;omega,by show 0<=_;omega,by show 0<=_;omega,by show 0<=_;omega,by show P<=_;omega,by show k - K1+(j - Q)<=_;omega⟩) j (by have:=B.out;have:=em.out;omega) (by have:=B.out;have:=em.out;omega) (by have:=B.out;have:=em.out;omega) B.out.2.1 I6.out;clear hb I em;go_wp2_with fail;refine Calls.mono TK.out ?_;rintro e w8 ⟨rfl,h7⟩;have I7:Hid (Po w p m P (max K1 (min (j+1) Q)) 1 (max K1 (min (j+1) Q) - K1) ⟨max K1 (min (j+1) Q),0,0,0,min (j+1) P,k - K1+(j+1 - min (j+1) Q)⟩ w8):=by
        show Po w p m P (max K1 (min (j+1) Q)) 1 (max K1 (min (j+1) Q) - K1) ⟨max K1 (min (j+1) Q),0,0,0,min (j+1) P,k - K1+(j+1 - min (j+1) Q)⟩ w8;rw[eN.out.1,eN.out.2.1,eN.out.2.2,show k - K1+(j+1 - Q)=k - K1+(j - Q)+1 by omega];exact h7
       clear h7 TK I6 eN;go_wp2;go_roundw
       case rel=>exact⟨j+1,by omega,by go_num,I7.out⟩
       case measure=>simp[intOf];omega
    ·have g3:¬(j:Int) < (k:Int):=by omega
     have ej:j=k:=by omega
     subst ej;have CT:Hid (Cl 16 #[.pointer (some ⟨m,0,none⟩)] wr fun e w'=>e = .returned (.agg #[.int .i64 (K2:Int),.int .i64 0,.int .i64 0,.int .i64 0,.int .i64 (K1:Int),.int .i64 (E3:Int)])/\Bw wr w'):=by
      have h:=zqm I.out;have e:=zvG j P Q K1 K2 E3 EK.out.1 EK.out.2.1 EK.out.2.2 B.out.2.2.2;rw[e] at h;exact h
     go_wp2_with fail;refine Calls.mono CT.out ?_;rintro e w8 ⟨rfl,hb⟩;have FF:Hid (Bw w w8):=I.out.below.trans (hb.mono I.out.below.size);clear hb CT I;go_wp2;go_ret;exact⟨rfl,FF.out⟩
end Go.Proofs.YtjcppbhgjchjaaaGreatDoor
namespace Go.Proofs.YtjcppbhgjchjaaaGreatDoor
open Go.RowKit Go.Proofs.Fd Go.Proofs.Hs Go.Proofs.Cc Go.Proofs.Hd Go.Proofs.Rt
theorem Six.other {w:World} {g b o:Nat} {v:Value} {k0 k1 k2 k3 k4 k5:Ba} (h:Six w g k0 k1 k2 k3 k4 k5) (hne:b≠g):Six (w.setCell ⟨b,o,none⟩ v) g k0 k1 k2 k3 k4 k5:=by
 obtain⟨f,h0,h1,h2,h3,h4,h5⟩:=h;have e:∀j,(w.setCell ⟨b,o,none⟩ v).cell? ⟨g,j,none⟩=w.cell? ⟨g,j,none⟩:=fun j=>by simp[go_sem]
 have e2:∀j,(w.setCell ⟨b,o,none⟩ v).frozen? ⟨g,j,none⟩=w.frozen? ⟨g,j,none⟩:=fun j=>by simp[go_sem]
 exact⟨fun j=>by rw[e2,f],by rw[e,h0],by rw[e,h1],by rw[e,h2],by rw[e,h3],by rw[e,h4],by rw[e,h5]⟩
theorem zvH (tmps:Array Value) (w:World) (b:Nat) (x:Array Value) (h0:tmps.getD 2 undef = .pointer (some ⟨b,0,none⟩))
  (l1:(loadVar 208 ⟨b,0,none⟩).run Tryz.prog w = .ok (.agg x) w) :
  (results Tryz.f179 tmps).run Tryz.prog w = .ok (.agg x) w:=by
 unfold results;rw[Tryz.results179];have h0':tmps[2]?.getD undef = .pointer (some ⟨b,0,none⟩):=by simpa using h0
 simp[h0',l1,asAddr]
theorem zeP (s:Ba) (hs:Hid (s.size+64<=140737488355328)) (w:World) (hK:Hid (Kh w)) :
  Cl 179 #[.string s] w fun e w'=>e = .returned (hk6 s)/\Bw w w':=by
 have D1:Hid (∀w,Kh w->Cl 257 #[.agg #[.string s],.string ⟨#[102,108,111,119]⟩,.int .i64 32] w fun e w'=>e = .returned (.string (hdk s zaH 32))/\Bw w w'):=fun w h=>zaM s zaH 32 (by decide) (by decide) hs w h
 have D2:Hid (∀w,Kh w->Cl 257 #[.agg #[.string s],.string ⟨#[109,97,99]⟩,.int .i64 32] w fun e w'=>e = .returned (.string (hdk s zcb 32))/\Bw w w'):=fun w h=>zaM s zcb 32 (by decide) (by decide) hs w h
 have D3:Hid (∀w,Kh w->Cl 257 #[.agg #[.string s],.string ⟨#[98,111,100,121]⟩,.int .i64 32] w fun e w'=>e = .returned (.string (hdk s zax 32))/\Bw w w'):=fun w h=>zaM s zax 32 (by decide) (by decide) hs w h
 have D4:Hid (∀w,Kh w->Cl 257 #[.agg #[.string s],.string ⟨#[98,108,105,110,100]⟩,.int .i64 32] w fun e w'=>e = .returned (.string (bld s))/\Bw w w'):=fun w h=>zaM s zqR 32 (by decide) (by decide) hs w h
 have D5:Hid (∀w,Kh w->Cl 257 #[.agg #[.string s],.string ⟨#[116,97,103]⟩,.int .i64 16] w fun e w'=>e = .returned (.string (hdk s zcc 16))/\Bw w w'):=fun w h=>zaM s zcc 16 (by decide) (by decide) hs w h
 unfold hk6;generalize hdk s zaH 32=k1 at *;generalize hdk s zcb 32=k2 at *;generalize hdk s zax 32=k3 at *;generalize bld s=k4 at *;generalize hdk s zcc 16=k5 at *;clear hs;have h0:w.heap.size≠w.heap.size+1:=by omega
 go_enter Tryz.func179, Tryz.ntmps179;go_wp2_with fail;obtain⟨W0,hW0⟩:∃W,(w.alloc (.cells #[.string ⟨#[]⟩,.string ⟨#[]⟩,.string ⟨#[]⟩,.string ⟨#[]⟩,.string ⟨#[]⟩,.string ⟨#[]⟩] 208)).alloc (.cells #[.string s,.string ⟨#[]⟩,.string ⟨#[]⟩,.string ⟨#[]⟩,.string ⟨#[]⟩,.string ⟨#[]⟩] 208)=W:=⟨_,rfl⟩;have S0:Hid (Six W0 (w.heap.size+1) s ⟨#[]⟩ ⟨#[]⟩ ⟨#[]⟩ ⟨#[]⟩ ⟨#[]⟩/\Six W0 w.heap.size ⟨#[]⟩ ⟨#[]⟩ ⟨#[]⟩ ⟨#[]⟩ ⟨#[]⟩ ⟨#[]⟩/\Bw w W0):=by
  rw[<-hW0];refine⟨?_,(Six.new _ _ _ _ _ _ _ _).later ((Below.refl _ _).alloc (Nat.le_refl _) _),((Below.refl _ _).alloc (Nat.le_refl _) _).alloc (by simp[go_sem]) _⟩;have:=Six.new (w.alloc (.cells #[.string ⟨#[]⟩,.string ⟨#[]⟩,.string ⟨#[]⟩,.string ⟨#[]⟩,.string ⟨#[]⟩,.string ⟨#[]⟩] 208)) 208 s ⟨#[]⟩ ⟨#[]⟩ ⟨#[]⟩ ⟨#[]⟩ ⟨#[]⟩
  simpa[go_sem] using this
 rw[hW0];clear hW0;refine Calls.mono (D1.out _ (hK.out.later S0.out.2.2)) ?_;rintro e v1 ⟨rfl,hb1⟩;have Q1:Hid (Six v1 (w.heap.size+1) s ⟨#[]⟩ ⟨#[]⟩ ⟨#[]⟩ ⟨#[]⟩ ⟨#[]⟩/\Six v1 w.heap.size ⟨#[]⟩ ⟨#[]⟩ ⟨#[]⟩ ⟨#[]⟩ ⟨#[]⟩ ⟨#[]⟩/\Bw w v1):=⟨S0.out.1.later hb1,S0.out.2.1.later hb1,chain S0.out.2.2 hb1⟩;clear hb1 S0 D1;obtain⟨fz,c0,c1,c2,c3,c4,c5⟩:=Q1.out.1;have f1:=fz 1;go_wp2_with fail;obtain⟨W1,hW1⟩:∃W,v1.setCell ⟨w.heap.size+1,1,none⟩ (.string k1)=W:=⟨_,rfl⟩;have S1:Hid (Six W1 (w.heap.size+1) s k1 ⟨#[]⟩ ⟨#[]⟩ ⟨#[]⟩ ⟨#[]⟩/\Six W1 w.heap.size ⟨#[]⟩ ⟨#[]⟩ ⟨#[]⟩ ⟨#[]⟩ ⟨#[]⟩ ⟨#[]⟩/\Bw w W1):=by
  rw[<-hW1];exact⟨Q1.out.1.set1 k1,Q1.out.2.1.other (Ne.symm h0),Q1.out.2.2.setCell (p:=⟨w.heap.size+1,1,none⟩) (by simp) _⟩
 rw[hW1];clear hW1 Q1 fz c0 c1 c2 c3 c4 c5 f1;refine Calls.mono (D2.out _ (hK.out.later S1.out.2.2)) ?_;rintro e v2 ⟨rfl,hb2⟩;have Q2:Hid (Six v2 (w.heap.size+1) s k1 ⟨#[]⟩ ⟨#[]⟩ ⟨#[]⟩ ⟨#[]⟩/\Six v2 w.heap.size ⟨#[]⟩ ⟨#[]⟩ ⟨#[]⟩ ⟨#[]⟩ ⟨#[]⟩ ⟨#[]⟩/\Bw w v2):=⟨S1.out.1.later hb2,S1.out.2.1.later hb2,chain S1.out.2.2 hb2⟩;clear hb2 S1 D2;obtain⟨fz,c0,c1,c2,c3,c4,c5⟩:=Q2.out.1;have f2:=fz 2;go_wp2_with fail;obtain⟨W2,hW2⟩:∃W,v2.setCell ⟨w.heap.size+1,2,none⟩ (.string k2)=W:=⟨_,rfl⟩;have S2:Hid (Six W2 (w.heap.size+1) s k1 k2 ⟨#[]⟩ ⟨#[]⟩ ⟨#[]⟩/\Six W2 w.heap.size ⟨#[]⟩ ⟨#[]⟩ ⟨#[]⟩ ⟨#[]⟩ ⟨#[]⟩ ⟨#[]⟩/\Bw w W2):=by
  rw[<-hW2];exact⟨Q2.out.1.set2 k2,Q2.out.2.1.other (Ne.symm h0),Q2.out.2.2.setCell (p:=⟨w.heap.size+1,2,none⟩) (by simp) _⟩
 rw[hW2];clear hW2 Q2 fz c0 c1 c2 c3 c4 c5 f2;refine Calls.mono (D3.out _ (hK.out.later S2.out.2.2)) ?_;rintro e v3 ⟨rfl,hb3⟩;have Q3:Hid (Six v3 (w.heap.size+1) s k1 k2 ⟨#[]⟩ ⟨#[]⟩ ⟨#[]⟩/\Six v3 w.heap.size ⟨#[]⟩ ⟨#[]⟩ ⟨#[]⟩ ⟨#[]⟩ ⟨#[]⟩ ⟨#[]⟩/\Bw w v3):=⟨S2.out.1.later hb3,S2.out.2.1.later hb3,chain S2.out.2.2 hb3⟩;clear hb3 S2 D3;obtain⟨fz,c0,c1,c2,c3,c4,c5⟩:=Q3.out.1;have f3:=fz 3;go_wp2_with fail;obtain⟨W3,hW3⟩:∃W,v3.setCell ⟨w.heap.size+1,3,none⟩ (.string k3)=W:=⟨_,rfl⟩;have S3:Hid (Six W3 (w.heap.size+1) s k1 k2 k3 ⟨#[]⟩ ⟨#[]⟩/\Six W3 w.heap.size ⟨#[]⟩ ⟨#[]⟩ ⟨#[]⟩ ⟨#[]⟩ ⟨#[]⟩ ⟨#[]⟩/\Bw w W3):=by
  rw[<-hW3];exact⟨Q3.out.1.set3 k3,Q3.out.2.1.other (Ne.symm h0),Q3.out.2.2.setCell (p:=⟨w.heap.size+1,3,none⟩) (by simp) _⟩
 rw[hW3];clear hW3 Q3 fz c0 c1 c2 c3 c4 c5 f3;refine Calls.mono (D4.out _ (hK.out.later S3.out.2.2)) ?_;rintro e v4 ⟨rfl,hb4⟩;have Q4:Hid (Six v4 (w.heap.size+1) s k1 k2 k3 ⟨#[]⟩ ⟨#[]⟩/\Six v4 w.heap.size ⟨#[]⟩ ⟨#[]⟩ ⟨#[]⟩ ⟨#[]⟩ ⟨#[]⟩ ⟨#[]⟩/\Bw w v4):=⟨S3.out.1.later hb4,S3.out.2.1.later hb4,chain S3.out.2.2 hb4⟩;clear hb4 S3 D4;obtain⟨fz,c0,c1,c2,c3,c4,c5⟩:=Q4.out.1;have f4:=fz 4;go_wp2_with fail;obtain⟨W4,hW4⟩:∃W,v4.setCell ⟨w.heap.size+1,4,none⟩ (.string k4)=W:=⟨_,rfl⟩;have S4:Hid (Six W4 (w.heap.size+1) s k1 k2 k3 k4 ⟨#[]⟩/\Six W4 w.heap.size ⟨#[]⟩ ⟨#[]⟩ ⟨#[]⟩ ⟨#[]⟩ ⟨#[]⟩ ⟨#[]⟩/\Bw w W4):=by
  rw[<-hW4];exact⟨Q4.out.1.set4 k4,Q4.out.2.1.other (Ne.symm h0),Q4.out.2.2.setCell (p:=⟨w.heap.size+1,4,none⟩) (by simp) _⟩
 rw[hW4];clear hW4 Q4 fz c0 c1 c2 c3 c4 c5 f4;refine Calls.mono (D5.out _ (hK.out.later S4.out.2.2)) ?_;rintro e v5 ⟨rfl,hb5⟩;have Q5:Hid (Six v5 (w.heap.size+1) s k1 k2 k3 k4 ⟨#[]⟩/\Six v5 w.heap.size ⟨#[]⟩ ⟨#[]⟩ ⟨#[]⟩ ⟨#[]⟩ ⟨#[]⟩ ⟨#[]⟩/\Bw w v5):=⟨S4.out.1.later hb5,S4.out.2.1.later hb5,chain S4.out.2.2 hb5⟩;clear hb5 S4 D5;obtain⟨fz,c0,c1,c2,c3,c4,c5⟩:=Q5.out.1;have f5:=fz 5;obtain⟨gz,d0,d1,d2,d3,d4,d5⟩:=Q5.out.2.1;have e0:=gz 0;have e1:=gz 1;have e2:=gz 2;have e3:=gz 3;have e4:=gz 4;have e5:=gz 5;have FF:Hid (_/\_):=And.intro (Six.whole (Six.other (o:=5) (v := .string k5) Q5.out.2.1 (Ne.symm h0)) s k1 k2 k3 k4 k5) (zgj (Q5.out.2.2.setCell (p:=⟨w.heap.size+1,5,none⟩) (by simp) (.string k5)) (Nat.le_refl w.heap.size) (.string s) (.string k1) (.string k2) (.string k3) (.string k4) (.string k5));clear fz gz Q5;go_wp2;refine bodyPost_ret (v := .agg #[.string s,.string k1,.string k2,.string k3,.string k4,.string k5]) ?_ rfl ⟨rfl,FF.out.2⟩;exact zvH _ _ w.heap.size _ (by kernel_rfl) (run_loadVar_mid _ w.heap.size 0 208 [.string s,.string k1,.string k2,.string k3,.string k4,.string k5] _ (Six.range FF.out.1) Tryz.underlying208 rfl (by kernel_rfl))
end Go.Proofs.YtjcppbhgjchjaaaGreatDoor
