/- A part of the walk. -/
import Derived.Test.YtjcppbhgjchjaaaGreatDoorZr3G06
set_option maxHeartbeats 8000000
set_option maxRecDepth 20000
namespace Go.Proofs.YtjcppbhgjchjaaaGreatDoor.Crv
open Go.RowKit Go.Proofs.Fd Go.Proofs.Ed
attribute [local go_sem ↓] Go.wp_at_zero Go.wp_at_succ
def Res (n:Nat) (w:Wo):Prop :=
 w.cell? ⟨n+1+1,0,none⟩=some (.string ⟨#[]⟩)/\w.cell? ⟨n+1+1,1,none⟩=some (.string ⟨#[]⟩)/\w.cell? ⟨n+1+1+1,0,none⟩=some (.string ⟨#[]⟩)/\w.cell? ⟨n+1+1+1,1,none⟩=some (.string ⟨#[]⟩)/\w.cell? ⟨n+1+1+1,2,none⟩=some (.string ⟨#[]⟩)
  /\ (∀o,w.frozen? ⟨n+1+1,o,none⟩=false)/\(∀o,w.frozen? ⟨n+1+1+1,o,none⟩=false)
theorem Res.later {n:Nat} {W w1:Wo} (h:Res n W) (hb:Bw W w1):Res n w1:=by
 obtain⟨h0,h1,h2,h3,h4,f0,f1⟩:=h;have hl:=World.block_lt_of_cell? _ _ h0;have hh:=World.block_lt_of_cell? _ _ h2;exact⟨cell_later hb h0,cell_later hb h1,cell_later hb h2,cell_later hb h3,cell_later hb h4,fun o=>(zae hb hl).trans (f0 o),fun o=>(zae hb hh).trans (f1 o)⟩
theorem Res.set {n:Nat} {W:Wo} (h:Res n W) {a:Addr} (ha:a.block<=n+1) (v:Value):Res n (W.setCell a v):=by
 obtain⟨h0,h1,h2,h3,h4,f0,f1⟩:=h;have n0:a.block≠n+1+1:=by omega
 have n1:a.block≠n+1+1+1:=by omega
 exact⟨zaa h0 n0,zaa h1 n0,zaa h2 n1,zaa h3 n1,zaa h4 n1,fun o=>(zag n0).trans (f0 o),fun o=>(zag n1).trans (f1 o)⟩
def Five (W0:Wo) (L H:Nat) (v0 v1 v2 v3 v4:Value) (w:Wo):Prop :=
 w.cell? ⟨L,0,none⟩=some v0/\w.cell? ⟨L,1,none⟩=some v1/\w.cell? ⟨H,0,none⟩=some v2/\w.cell? ⟨H,1,none⟩=some v3/\w.cell? ⟨H,2,none⟩=some v4
  /\ (∀o,w.frozen? ⟨L,o,none⟩=false)/\(∀o,w.frozen? ⟨H,o,none⟩=false)/\Bw W0 w/\Res W0.heap.size w
theorem Five.later {W0 W w1:Wo} {L H:Nat} {v0 v1 v2 v3 v4:Value} (h:Five W0 L H v0 v1 v2 v3 v4 W) (hb:Bw W w1):Five W0 L H v0 v1 v2 v3 v4 w1:=by
 obtain⟨h0,h1,h2,h3,h4,f0,f1,hB,hR⟩:=h;have hl:L < W.heap.size:=World.block_lt_of_cell? _ _ h0;have hh:H < W.heap.size:=World.block_lt_of_cell? _ _ h2;exact⟨cell_later hb h0,cell_later hb h1,cell_later hb h2,cell_later hb h3,cell_later hb h4,fun o=>(zae hb hl).trans (f0 o),fun o=>(zae hb hh).trans (f1 o),chain hB hb,hR.later hb⟩
theorem Five.alloc {W0 W:Wo} {L H:Nat} {v0 v1 v2 v3 v4:Value} (h:Five W0 L H v0 v1 v2 v3 v4 W) (o:Obj):Five W0 L H v0 v1 v2 v3 v4 (W.alloc o):=h.later ((bQ _ _).alloc (nL _) _)
def Rst (W0:Wo) (L H:Nat) (v0 v1:Value) (w:Wo):Prop :=
 w.cell? ⟨L,0,none⟩=some v0/\w.cell? ⟨L,1,none⟩=some v1/\(∃v,w.cell? ⟨H,0,none⟩=some v)/\(∃v,w.cell? ⟨H,1,none⟩=some v)
  /\ (∀o,w.frozen? ⟨L,o,none⟩=false)/\(∀o,w.frozen? ⟨H,o,none⟩=false)/\Below W0.heap.size W0 w/\W0.heap.size=L/\W0.heap.size+1=H/\Res W0.heap.size w
theorem za9 {W0 W w1:Wo} {L H:Nat} {v0 v1 v4:Value} (hb:Bw W w1) (h:W.cell? ⟨H,2,none⟩=some v4/\Rst W0 L H v0 v1 W):w1.cell? ⟨H,2,none⟩=some v4/\Rst W0 L H v0 v1 w1:=by
 obtain⟨h4,h0,h1,⟨a,h2⟩,⟨b,h3⟩,f0,f1,hB,n0,n1,hR⟩:=h;have hl:L < W.heap.size:=World.block_lt_of_cell? _ _ h0;have hh:H < W.heap.size:=World.block_lt_of_cell? _ _ h2;exact⟨cell_later hb h4,cell_later hb h0,cell_later hb h1,⟨a,cell_later hb h2⟩,⟨b,cell_later hb h3⟩,fun o=>(zae hb hl).trans (f0 o),fun o=>(zae hb hh).trans (f1 o),chain hB hb,n0,n1,hR.later hb⟩
theorem zfH {W0 W:Wo} {L H:Nat} {v0 v1 v4:Value} (x:Value) (h:W.cell? ⟨H,2,none⟩=some v4/\Rst W0 L H v0 v1 W):(W.setCell ⟨H,0,none⟩ x).cell? ⟨H,2,none⟩=some v4/\Rst W0 L H v0 v1 (W.setCell ⟨H,0,none⟩ x):=by
 obtain⟨h4,h0,h1,⟨a,h2⟩,⟨b,h3⟩,f0,f1,hB,n0,n1,hR⟩:=h;refine⟨by simp[go_sem,h4],zaa h0 (by show H≠L;omega),zaa h1 (by show H≠L;omega),⟨x,by simp[go_sem,h2]⟩,⟨b,by simp[go_sem,h3]⟩,fun o=>(zag (by show H≠L;omega)).trans (f0 o),fun o=>by simp[go_sem,f1],hB.setCell (p:=⟨H,0,none⟩) (by show _<=H;omega) _,n0,n1,hR.set (by show H<=_;omega) _⟩
theorem zfI {W0 W:Wo} {L H:Nat} {v0 v1 v4:Value} (x:Value) (h:W.cell? ⟨H,2,none⟩=some v4/\Rst W0 L H v0 v1 W):(W.setCell ⟨H,1,none⟩ x).cell? ⟨H,2,none⟩=some v4/\Rst W0 L H v0 v1 (W.setCell ⟨H,1,none⟩ x):=by
 obtain⟨h4,h0,h1,⟨a,h2⟩,⟨b,h3⟩,f0,f1,hB,n0,n1,hR⟩:=h;refine⟨by simp[go_sem,h4],zaa h0 (by show H≠L;omega),zaa h1 (by show H≠L;omega),⟨a,by simp[go_sem,h2]⟩,⟨x,by simp[go_sem,h3]⟩,fun o=>(zag (by show H≠L;omega)).trans (f0 o),fun o=>by simp[go_sem,f1],hB.setCell (p:=⟨H,1,none⟩) (by show _<=H;omega) _,n0,n1,hR.set (by show H<=_;omega) _⟩
theorem zeT {W0 W:Wo} {L H:Nat} {v0 v1 v2 v3 v4:Value} (h:W.cell? ⟨H,2,none⟩=some v4/\Rst W0 L H v0 v1 W) :
  Five W0 L H v0 v1 v2 v3 v4 ((W.setCell ⟨H,0,none⟩ v2).setCell ⟨H,1,none⟩ v3):=by
 have k:=zfI v3 (zfH v2 h);obtain⟨h4,h0,h1,-,-,f0,f1,hB,-,-,hR⟩:=k;obtain⟨-,-,-,⟨a,q2⟩,⟨b,q3⟩,-⟩:=h;exact⟨h0,h1,by simp[go_sem,q2],by simp[go_sem,q3],h4,f0,f1,hB,hR⟩
theorem zd0 (x2 z2 x3 z3 u:K) (w:Wo) :
  Cl 188 #[.agg #[.string (ek x2),.string (ek z2)],.agg #[.string (ek x3),.string (ek z3),.string (ek u)]] w fun e w' =>
   e = .returned (.tuple #[.agg #[.string (ek (zau u (x2,z2) (x3,z3)).1.1),.string (ek (zau u (x2,z2) (x3,z3)).1.2)],.agg #[.string (ek (zau u (x2,z2) (x3,z3)).2.1),.string (ek (zau u (x2,z2) (x3,z3)).2.2),.string (ek u)]])/\Below w.heap.size w w':=by
 go_enter Tryz.func188, Tryz.ntmps188;go_wp2;obtain⟨W,hW⟩:∃W,(((w.alloc (.cells #[.string (ek x2),.string (ek z2)] 275)).alloc (.cells #[.string (ek x3),.string (ek z3),.string (ek u)] 277)).alloc (.cells #[.string ⟨#[]⟩,.string ⟨#[]⟩] 275)).alloc (.cells #[.string ⟨#[]⟩,.string ⟨#[]⟩,.string ⟨#[]⟩] 277)=W:=⟨_,rfl⟩;have F0:Hid (Five w w.heap.size (w.heap.size+1) (.string (ek x2)) (.string (ek z2)) (.string (ek x3)) (.string (ek z3)) (.string (ek u)) W):=by
  show Five _ _ _ _ _ _ _ _ _;rw[<-hW];refine⟨?_,?_,?_,?_,?_,?_,?_,((((bQ _ _).alloc (nL _) _).alloc (by simp) _).alloc (by simp;omega) _).alloc (by simp;omega) _,?_,?_,?_,?_,?_,?_,?_⟩ <;> simp[go_sem]
 rw[hW];clear hW;obtain⟨c0,c1,-,-,-,-,-,-⟩:=F0.out;go_region_held3 (fun w'=>w'.cell? ⟨w.heap.size,0,none⟩=some (.string (ek x2))/\w'.cell? ⟨w.heap.size,1,none⟩=some (.string (ek z2))/\Below W.heap.size W w') (first|exact⟨c0,c1,(bQ _ _).drew⟩|exact keep2 (by assumption) (by assumption)|exact keep2 ((bQ _ _).alloc (nL _) _) (by assumption)) (first|(go_at_call 264;refine cM (zfG x2 z2 _) ?_;rintro e w1 ⟨rfl,hb⟩)|(go_at_call 265;refine cM (zdY x2 z2 _) ?_;rintro e w2 ⟨rfl,hb2⟩));rename_i hBW;have F1:Hid (Five w w.heap.size (w.heap.size+1) (.string (ek x2)) (.string (ek z2)) (.string (ek x3)) (.string (ek z3)) (.string (ek u)) w2):=F0.out.later hBW.2.2;clear hBW hb hb2 c0 c1 F0;obtain⟨A,hA⟩:∃A,x2+z2=A:=⟨_,rfl⟩;obtain⟨B,hB'⟩:∃B,x2 - z2=B:=⟨_,rfl⟩;rw[hA,hB'];go_wp2_with fail;refine cM (zaz A A w2.heap.size _ (by simp[go_sem]) (by simp[go_sem])) ?_;rintro e w3 ⟨rfl,hb⟩;have F3:Hid (Five w w.heap.size (w.heap.size+1) (.string (ek x2)) (.string (ek z2)) (.string (ek x3)) (.string (ek z3)) (.string (ek u)) w3):=(F1.out.alloc _).later hb;clear hb F1;obtain⟨AA,hAA⟩:∃AA,A*A=AA:=⟨_,rfl⟩;rw[hAA];go_wp2_with fail;refine cM (zaz B B w3.heap.size _ (by simp[go_sem]) (by simp[go_sem])) ?_;rintro e w4 ⟨rfl,hb⟩;have F4:Hid (Five w w.heap.size (w.heap.size+1) (.string (ek x2)) (.string (ek z2)) (.string (ek x3)) (.string (ek z3)) (.string (ek u)) w4):=(F3.out.alloc _).later hb
 clear hb F3;obtain⟨BB,hBB⟩:∃BB,B*B=BB:=⟨_,rfl⟩;rw[hBB];go_wp2_with fail;refine cM (zc6 AA BB _) ?_;rintro e w5 ⟨rfl,hb⟩;have F5:Hid (Five w w.heap.size (w.heap.size+1) (.string (ek x2)) (.string (ek z2)) (.string (ek x3)) (.string (ek z3)) (.string (ek u)) w5):=F4.out.later hb;clear hb F4;obtain⟨E,hE⟩:∃E,AA - BB=E:=⟨_,rfl⟩;rw[hE];go_wp2;obtain⟨-,-,c0,c1,-,-,-,-⟩:=F5.out;go_region_held3 (fun w'=>w'.cell? ⟨w.heap.size+1,0,none⟩=some (.string (ek x3))/\w'.cell? ⟨w.heap.size+1,1,none⟩=some (.string (ek z3))/\Below w5.heap.size w5 w') (first|exact⟨c0,c1,(bQ _ _).drew⟩|exact keep2 (by assumption) (by assumption)|exact keep2 ((bQ _ _).alloc (nL _) _) (by assumption)) (first|(go_at_call 264;refine cM (zfG x3 z3 _) ?_;rintro e w8 ⟨rfl,hb8⟩)|(go_at_call 265;refine cM (zdY x3 z3 _) ?_;rintro e w6 ⟨rfl,hb6⟩)|(go_at_call 266;refine cM (zaz (x3 - z3) A _ _ ?_ ?_) ?_;(focus simp[go_sem]);(focus simp[go_sem]);rintro e w7 ⟨rfl,hb7⟩)|(go_at_call 266;refine cM (zaz (x3+z3) B _ _ ?_ ?_) ?_;(focus simp[go_sem]);(focus simp[go_sem]);rintro e w9 ⟨rfl,hb9⟩));rename_i hBW;have F9:Hid (Five w w.heap.size (w.heap.size+1) (.string (ek x2)) (.string (ek z2)) (.string (ek x3)) (.string (ek z3)) (.string (ek u)) w9):=F5.out.later hBW.2.2;clear hBW hb6 hb7 hb8 hb9 c0 c1 F5;obtain⟨DA,hDA⟩:∃DA,(x3 - z3)*A=DA:=⟨_,rfl⟩
 obtain⟨CB,hCB⟩:∃CB,(x3+z3)*B=CB:=⟨_,rfl⟩;rw[hDA,hCB];go_wp2_with fail;refine cM (zc5 DA CB _) ?_;rintro e w10 ⟨rfl,hb⟩;have F10:Hid (Five w w.heap.size (w.heap.size+1) (.string (ek x2)) (.string (ek z2)) (.string (ek x3)) (.string (ek z3)) (.string (ek u)) w10):=F9.out.later hb;clear hb F9;obtain⟨S,hS⟩:∃S,DA+CB=S:=⟨_,rfl⟩;rw[hS];go_wp2_with fail;refine cM (zc6 DA CB _) ?_;rintro e w11 ⟨rfl,hb⟩;have F11:Hid (Five w w.heap.size (w.heap.size+1) (.string (ek x2)) (.string (ek z2)) (.string (ek x3)) (.string (ek z3)) (.string (ek u)) w11):=F10.out.later hb;clear hb F10;obtain⟨D,hD⟩:∃D,DA - CB=D:=⟨_,rfl⟩;rw[hD];go_wp2;have c2:w11.cell? ⟨w.heap.size+1,2,none⟩=some (.string (ek u))/\Rst w w.heap.size (w.heap.size+1) (.string (ek x2)) (.string (ek z2)) w11:=by
  obtain⟨l0,l1,c0,c1,c2,f0,f1,hB,hR⟩:=F11.out;exact⟨c2,l0,l1,⟨_,c0⟩,⟨_,c1⟩,f0,f1,hB,rfl,rfl,hR⟩
 clear F11;go_cut [] (fun wx=>Hid (Five w w.heap.size (w.heap.size+1) (.string (ek x2)) (.string (ek z2)) (.string (ek (S*S))) (.string (ek (u*D*D))) (.string (ek u)) wx))
 case first =>
  go_region_held3 (fun w'=>w'.cell? ⟨w.heap.size+1,2,none⟩=some (.string (ek u))/\Rst w w.heap.size (w.heap.size+1) (.string (ek x2)) (.string (ek z2)) w') (first|exact za9 (bQ _ _).drew c2|exact za9 ((bQ _ _).alloc (nL _) _) (by assumption)|exact zfH _ (by assumption)|exact zfI _ (by assumption)|exact za9 (by assumption) (by assumption)) (first|(go_at_call 266;revert hb;intro hb;refine cM (zhy u D D _ _ ?_ ?_ ?_) ?_;(focus first|(simp[go_sem];done)|exact cell_later hb (by simp[go_sem]));(focus first|(simp[go_sem];done)|exact cell_later hb (by simp[go_sem]));(focus first|(simp[go_sem];done)|exact cell_later hb (by simp[go_sem]));rintro e w13 ⟨rfl,hb13⟩;obtain⟨q4,q0,q1,⟨va,q2⟩,⟨vb,q3⟩,r0,r1,-⟩:=za9 hb13 (by assumption);have r10:=r1 0;have r11:=r1 1;have R13:Hid (w13.cell? ⟨w.heap.size+1,2,none⟩=some (.string (ek u))/\Rst w w.heap.size (w.heap.size+1) (.string (ek x2)) (.string (ek z2)) w13):=za9 hb13 (by assumption);clear r0 r1)|(go_at_call 266;refine cM (zaz S S _ _ ?_ ?_) ?_;(focus simp[go_sem]);(focus simp[go_sem]);rintro e w12 ⟨rfl,hb⟩))
  all_goals
   go_wp2_with fail;go_meet
   case rel=>exact zeT R13.out
 case rest =>
  clear c2;obtain⟨X3,hX3⟩:∃X,S*S=X:=⟨_,rfl⟩;obtain⟨Z3,hZ3⟩:∃Z,u*D*D=Z:=⟨_,rfl⟩;rw[hX3,hZ3] at hcut;go_wp2_with fail;refine cM (zaz AA BB wc.heap.size _ (by simp[go_sem]) (by simp[go_sem])) ?_;rintro e w13 ⟨rfl,hb⟩;have F13:Hid (Five w w.heap.size (w.heap.size+1) (.string (ek x2)) (.string (ek z2)) (.string (ek X3)) (.string (ek Z3)) (.string (ek u)) w13):=(hcut.out.alloc _).later hb;clear hb hcut;obtain⟨X2,hX2⟩:∃X,AA*BB=X:=⟨_,rfl⟩;rw[hX2];go_wp2_with fail;refine cM (zaV 121665 121665 rfl (by omega) _) ?_;rintro e w14 ⟨rfl,hb⟩;have F14:Hid (Five w w.heap.size (w.heap.size+1) (.string (ek x2)) (.string (ek z2)) (.string (ek X3)) (.string (ek Z3)) (.string (ek u)) w14):=F13.out.later hb;clear hb F13;rw[show enc 121665=ek c0 from rfl];go_wp2_with fail;refine cM (zaz c0 E w14.heap.size _ (by simp[go_sem]) (by simp[go_sem])) ?_;rintro e w15 ⟨rfl,hb⟩;have F15:Hid (Five w w.heap.size (w.heap.size+1) (.string (ek x2)) (.string (ek z2)) (.string (ek X3)) (.string (ek Z3)) (.string (ek u)) w15):=(F14.out.alloc _).later hb;clear hb F14;obtain⟨G,hG⟩:∃X,c0*E=X:=⟨_,rfl⟩;rw[hG];go_wp2_with fail;refine cM (zc5 AA G _) ?_;rintro e w16 ⟨rfl,hb⟩;have F16:Hid (Five w w.heap.size (w.heap.size+1) (.string (ek x2)) (.string (ek z2)) (.string (ek X3)) (.string (ek Z3)) (.string (ek u)) w16):=F15.out.later hb;clear hb F15;obtain⟨J,hJ⟩:∃X,AA+G=X:=⟨_,rfl⟩;rw[hJ];go_wp2_with fail;refine cM (zaz E J w16.heap.size _ (by simp[go_sem]) (by simp[go_sem])) ?_
  rintro e w17 ⟨rfl,hb⟩;have F17:Hid (Five w w.heap.size (w.heap.size+1) (.string (ek x2)) (.string (ek z2)) (.string (ek X3)) (.string (ek Z3)) (.string (ek u)) w17):=(F16.out.alloc _).later hb;clear hb F16;obtain⟨Z2,hZ2⟩:∃X,E*J=X:=⟨_,rfl⟩;rw[hZ2];obtain⟨q0,q1,q2,q3,q4,f0,f1,hB,r0,r1,r2,r3,r4,g0,g1⟩:=F17.out;have BB17:Hid (Below w.heap.size w w17):=hB;clear hB F17;have f00:=f0 0;have f01:=f0 1;have g00:=g0 0;have g01:=g0 1;have g10:=g1 0;have g11:=g1 1;have g12:=g1 2;clear f0 f1 g0 g1;have FIN:Hid (zau u (x2,z2) (x3,z3)=((X2,Z2),(X3,Z3))):=by
   show _=_;rw[<-hX2,<-hZ2,<-hX3,<-hZ3,<-hJ,<-hG,<-hE,<-hAA,<-hBB,<-hS,<-hD,<-hDA,<-hCB,<-hA,<-hB'];simp only[zau];refine Prod.ext rfl (Prod.ext rfl ?_)
   grind
  clear hX2 hZ2 hX3 hZ3 hJ hG hE hAA hBB hS hD hDA hCB hA hB';go_wp2;obtain⟨V,hV⟩:∃V,(w17.setCell ⟨w.heap.size,0,none⟩ (.string (ek X2))).setCell ⟨w.heap.size,1,none⟩ (.string (ek Z2))=V:=⟨_,rfl⟩;have l0:V.cell? ⟨w.heap.size,0,none⟩=some (.string (ek X2)):=by rw[<-hV];simp[go_sem,q0]
  have l1:V.cell? ⟨w.heap.size,1,none⟩=some (.string (ek Z2)):=by rw[<-hV];simp[go_sem,q1]
  have n1:w.heap.size≠w.heap.size+1:=by omega
  have n2:w.heap.size≠w.heap.size+1+1:=by omega
  have n3:w.heap.size≠w.heap.size+1+1+1:=by omega
  have s0:V.cell? ⟨w.heap.size+1,0,none⟩=some (.string (ek X3)):=by rw[<-hV];exact zaa (zaa q2 n1) n1
  have s1:V.cell? ⟨w.heap.size+1,1,none⟩=some (.string (ek Z3)):=by rw[<-hV];exact zaa (zaa q3 n1) n1
  have s2:V.cell? ⟨w.heap.size+1,2,none⟩=some (.string (ek u)):=by rw[<-hV];exact zaa (zaa q4 n1) n1
  have t0:V.cell? ⟨w.heap.size+1+1,0,none⟩=some (.string ⟨#[]⟩):=by rw[<-hV];exact zaa (zaa r0 n2) n2
  have t1:V.cell? ⟨w.heap.size+1+1,1,none⟩=some (.string ⟨#[]⟩):=by rw[<-hV];exact zaa (zaa r1 n2) n2
  have t2:V.cell? ⟨w.heap.size+1+1+1,0,none⟩=some (.string ⟨#[]⟩):=by rw[<-hV];exact zaa (zaa r2 n3) n3
  have t3:V.cell? ⟨w.heap.size+1+1+1,1,none⟩=some (.string ⟨#[]⟩):=by rw[<-hV];exact zaa (zaa r3 n3) n3
  have t4:V.cell? ⟨w.heap.size+1+1+1,2,none⟩=some (.string ⟨#[]⟩):=by rw[<-hV];exact zaa (zaa r4 n3) n3
  have v0:V.frozen? ⟨w.heap.size+1+1,0,none⟩=false:=by rw[<-hV];simp[g00]
  have v1:V.frozen? ⟨w.heap.size+1+1,1,none⟩=false:=by rw[<-hV];simp[g01]
  have v2:V.frozen? ⟨w.heap.size+1+1+1,0,none⟩=false:=by rw[<-hV];simp[g10]
  have v3:V.frozen? ⟨w.heap.size+1+1+1,1,none⟩=false:=by rw[<-hV];simp[g11]
  have v4:V.frozen? ⟨w.heap.size+1+1+1,2,none⟩=false:=by rw[<-hV];simp[g12]
  have BV:Hid (Below w.heap.size w V):=hV ▸ (BB17.out.setCell (p:=⟨w.heap.size,0,none⟩) (nL _) _).setCell (p:=⟨w.heap.size,1,none⟩) (nL _) _;rw[hV];clear hV q0 q1 q2 q3 q4 r0 r1 r2 r3 r4 f00 f01 g00 g01 g10 g11 g12 BB17 n1 n2 n3;have m2:¬(w.heap.size+1+1=w.heap.size):=by omega
  have m3:¬(w.heap.size+1+1+1=w.heap.size):=by omega
  go_region_held3 (fun w'=>w'.cell? ⟨w.heap.size,0,none⟩=some (.string (ek X2))/\w'.cell? ⟨w.heap.size,1,none⟩=some (.string (ek Z2))/\w'.cell? ⟨w.heap.size+1,0,none⟩=some (.string (ek X3))/\w'.cell? ⟨w.heap.size+1,1,none⟩=some (.string (ek Z3))/\w'.cell? ⟨w.heap.size+1,2,none⟩=some (.string (ek u))) (go_keep) (fail)
  all_goals
   go_wp2;refine bodyPost_ret (v := .tuple #[.agg #[.string (ek X2),.string (ek Z2)],.agg #[.string (ek X3),.string (ek Z3),.string (ek u)]]) (by simp[results,Tryz.results188, go_sem, *]) rfl ⟨by rw[FIN.out],?_⟩
   repeat (first|exact BV.out|refine Below.setCell ?_ (by simp;try omega) _|refine Below.drew ?_)
end Go.Proofs.YtjcppbhgjchjaaaGreatDoor.Crv
