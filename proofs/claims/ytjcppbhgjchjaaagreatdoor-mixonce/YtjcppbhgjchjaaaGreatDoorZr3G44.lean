/- A part of the walk. -/
import Derived.Test.YtjcppbhgjchjaaaGreatDoorZr3G42
import Derived.Test.YtjcppbhgjchjaaaGreatDoorZr3G43
set_option maxHeartbeats 8000000
set_option maxRecDepth 20000
namespace Go.Proofs.YtjcppbhgjchjaaaGreatDoor
open Go.RowKit Go.Proofs.Fd Go.Proofs.Hs Go.Proofs.Cc Go.Proofs.Hd Go.Proofs.Rt
def ztD (seed:Ba) (pts:List Ba) (hs:List Hp):Int :=
 if pth hs=0 then (if pts.length=hs.length then (if seed.size=32/\(pts.all fun p=>p.size == 32)=true then 0 else 3) else 4) else pth hs
theorem zut (seed:Ba) (a:Option Addr) (pts:List Ba) (n cap:Nat) (b:Option Addr) (hs:List Hp) (m cap2:Nat) (w:Wo) (hl:Hid (pts.length=n/\hs.length=m)) (hb:Hid (n<=140737488355328/\m<=140737488355328))
  (hid:Hid (∀h∈hs,h.id.size<=140737488355328)) (hc:Hid (StrAt w a pts)) (hp:Hid (zfS w b hs)) :
  Cl 102 #[.string seed,.slice a n cap,.slice b m cap2] w fun e w'=>e = .returned (.int .i64 (ztD seed pts hs))/\Bw w w':=by
 have PC:Hid (Cl 176 #[.slice b m cap2] w fun e w'=>e = .returned (.int .i64 (pth hs))/\Bw w w'):=zw3 b hs m cap2 w hl.out.2 hb.out.2 hid hp;obtain⟨d1,hd1⟩:∃d:Bool,decide (seed.size=32)=d:=⟨_,rfl⟩;obtain⟨d2,hd2⟩:∃d:Bool,Crv.wh pts=d:=⟨_,rfl⟩;have W1:Hid (∀(B:Nat) (w:Wo),w.cell? ⟨B,0,none⟩=some (.string seed)->Cl 177 #[.slice (some ⟨B,0,none⟩) 1 1] w fun e w'=>e = .returned (.bool d1)/\Bw w w'):=fun B w h=>by
  rw[<-hd1];exact zsv seed B w h
 have W2:Hid (∀(w':Wo),Bw w w'->Cl 177 #[.slice a n cap] w' fun e w''=>e = .returned (.bool d2)/\Bw w' w''):=fun w' h=>by
  rw[<-hd2];exact zta a pts n cap hl.out.1 (by have:=hb.out;omega) w' (hc.out.later h rfl)
 by_cases hp0:pth hs=0
 ·rw[hp0] at PC
  by_cases hnm:n=m
  ·subst hnm
   have VV:Hid (ztD seed pts hs=if d1=true/\d2=true then 0 else 3):=by
    unfold ztD;rw[if_pos hp0,if_pos (by rw[hl.out.1,hl.out.2]),<-hd1,<-hd2,zxd];show (if _ then _ else _)=_
    simp only[decide_eq_true_eq]
   generalize ztD seed pts hs=V at *;clear hd1 hd2 hp0;have g1:((n:Int) != (n:Int))=false:=by simp
   go_enter Tryz.func102, Tryz.ntmps102;go_wp2_with fail;refine cM PC.out ?_;rintro e w1 ⟨rfl,hb1⟩;have B1:Hid (Bw w w1):=hb1;clear hb1 PC;go_wp2_with fail;refine cM (W1.out _ _ (by simp[go_sem])) ?_;rintro e w2 ⟨rfl,hb2⟩;have B2:Hid (Bw w w2):=chain (B1.out.alloc B1.out.size _) hb2;clear hb2 W1 B1;cases d1 with
   | false =>
    go_wp2;go_ret;exact⟨by rw[VV.out];simp,B2.out⟩
   | true =>
    go_wp2_with fail;refine cM (W2.out _ B2.out) ?_;rintro e w3 ⟨rfl,hb3⟩;have B3:Hid (Bw w w3):=chain B2.out hb3;clear hb3 W2 B2;cases d2 with
    | false =>
     go_wp2;go_ret;exact⟨by rw[VV.out];simp,B3.out⟩
    | true =>
     go_wp2;go_ret;exact⟨by rw[VV.out];simp,B3.out⟩
  ·have VV:Hid (ztD seed pts hs=4):=by
    unfold ztD;rw[if_pos hp0,if_neg (by rw[hl.out.1,hl.out.2];exact hnm)];exact rfl
   generalize ztD seed pts hs=V at *;have g1:((n:Int) != (m:Int))=true:=by simp;omega
   clear hp0 hnm;go_enter Tryz.func102, Tryz.ntmps102;go_wp2_with fail;refine cM PC.out ?_;rintro e w1 ⟨rfl,hb1⟩;have B1:Hid (Bw w w1):=hb1;clear hb1 PC;go_wp2;go_ret;exact⟨by rw[VV.out];rfl,B1.out⟩
 ·have VV:Hid (ztD seed pts hs=pth hs):=by
   unfold ztD;rw[if_neg hp0];exact rfl
  generalize ztD seed pts hs=V at *;generalize pth hs=E at *;go_enter Tryz.func102, Tryz.ntmps102;go_wp2_with fail;refine cM PC.out ?_;rintro e w1 ⟨rfl,hb1⟩;have B1:Hid (Bw w w1):=hb1;clear hb1 PC;go_wp2;go_ret;exact⟨by rw[VV.out];rfl,B1.out⟩
def zs4 (ss:List Ba) (k j:Nat):Ba×Ba×Ba×Ba×Ba:=if j < k then (hdk (nth ss j) zo9 32,hdk (nth ss j) zr8 32,hdk (nth ss j) zpa 32,bld (nth ss j),hdk (nth ss j) zqe 16) else (⟨#[]⟩,⟨#[]⟩,⟨#[]⟩,⟨#[]⟩,⟨#[]⟩)
def KAt (w:Wo) (g:Nat) (ss:List Ba) (n k:Nat):Prop:=(∀o,w.frozen? ⟨g,o,none⟩=false)/\∀j,j < n ->
  w.cell? ⟨g,j*5,none⟩=some (.string (zs4 ss k j).1)/\w.cell? ⟨g,j*5+1,none⟩=some (.string (zs4 ss k j).2.1)/\w.cell? ⟨g,j*5+2,none⟩=some (.string (zs4 ss k j).2.2.1)
  /\ w.cell? ⟨g,j*5+3,none⟩=some (.string (zs4 ss k j).2.2.2.1)/\w.cell? ⟨g,j*5+4,none⟩=some (.string (zs4 ss k j).2.2.2.2)
theorem KAt.later {w w':Wo} {g:Nat} {ss:List Ba} {n k:Nat} (hg:g < w.heap.size) (h:KAt w g ss n k) (hb:Bw w w'):KAt w' g ss n k:=by
 refine⟨fun o=>(zae hb hg).trans (h.1 o),fun j hj => ?_⟩;obtain⟨c0,c1,c2,c3,c4⟩:=h.2 j hj;exact⟨cell_later hb c0,cell_later hb c1,cell_later hb c2,cell_later hb c3,cell_later hb c4⟩
def set5 (w:Wo) (g o:Nat) (x0 x1 x2 x3 x4:Ba):Wo:=((((w.setCell ⟨g,o,none⟩ (.string x0)).setCell ⟨g,o+1,none⟩ (.string x1)).setCell ⟨g,o+2,none⟩ (.string x2)).setCell ⟨g,o+3,none⟩ (.string x3)).setCell ⟨g,o+4,none⟩ (.string x4)
theorem zsu (w:Wo) (g o:Nat) (x0 x1 x2 x3 x4:Ba) (p:Nat) (h:p < o\/o+5<=p):(set5 w g o x0 x1 x2 x3 x4).cell? ⟨g,p,none⟩=w.cell? ⟨g,p,none⟩:=by
 unfold set5;have a0:¬p=o:=by omega
 have a1:¬p=o+1:=by omega
 have a2:¬p=o+2:=by omega
 have a3:¬p=o+3:=by omega
 have a4:¬p=o+4:=by omega
 have b0:¬o=p:=by omega
 have b1:¬o+1=p:=by omega
 have b2:¬o+2=p:=by omega
 have b3:¬o+3=p:=by omega
 have b4:¬o+4=p:=by omega
 simp[go_sem, *]
theorem ztU (w:Wo) (g o:Nat) (x0 x1 x2 x3 x4:Ba) (a:Addr):(set5 w g o x0 x1 x2 x3 x4).frozen? a=w.frozen? a:=by
 unfold set5;simp[go_sem]
theorem ztz (w:Wo) (g o:Nat) (x0 x1 x2 x3 x4:Ba):(set5 w g o x0 x1 x2 x3 x4).heap.size=w.heap.size:=by
 unfold set5;simp[go_sem]
theorem zwN (w:Wo) (g o:Nat) (x0 x1 x2 x3 x4:Ba) (v0 v1 v2 v3 v4:Value) (h0:w.cell? ⟨g,o,none⟩=some v0) (h1:w.cell? ⟨g,o+1,none⟩=some v1) (h2:w.cell? ⟨g,o+2,none⟩=some v2) (h3:w.cell? ⟨g,o+3,none⟩=some v3) (h4:w.cell? ⟨g,o+4,none⟩=some v4) :
  (set5 w g o x0 x1 x2 x3 x4).cell? ⟨g,o,none⟩=some (.string x0)/\(set5 w g o x0 x1 x2 x3 x4).cell? ⟨g,o+1,none⟩=some (.string x1)/\(set5 w g o x0 x1 x2 x3 x4).cell? ⟨g,o+2,none⟩=some (.string x2)/\(set5 w g o x0 x1 x2 x3 x4).cell? ⟨g,o+3,none⟩=some (.string x3)/\(set5 w g o x0 x1 x2 x3 x4).cell? ⟨g,o+4,none⟩=some (.string x4):=by
 unfold set5;refine⟨?_,?_,?_,?_,?_⟩ <;> simp[go_sem,h0,h1,h2,h3,h4]
theorem KAt.step {w:Wo} {g:Nat} {ss:List Ba} {n k:Nat} (h:KAt w g ss n k) (hk:k < n):KAt (set5 w g (k*5) (hdk (nth ss k) zo9 32) (hdk (nth ss k) zr8 32) (hdk (nth ss k) zpa 32) (bld (nth ss k)) (hdk (nth ss k) zqe 16)) g ss n (k+1):=by
 refine⟨fun o=>by rw[ztU];exact h.1 o,fun j hj => ?_⟩;by_cases e:j=k
 ·subst e
  have q:zs4 ss (j+1) j=(hdk (nth ss j) zo9 32,hdk (nth ss j) zr8 32,hdk (nth ss j) zpa 32,bld (nth ss j),hdk (nth ss j) zqe 16):=if_pos (by omega);rw[q];obtain⟨c0,c1,c2,c3,c4⟩:=h.2 j hj;exact zwN w g (j*5) _ _ _ _ _ _ _ _ _ _ c0 c1 c2 c3 c4
 ·have q:zs4 ss (k+1) j=zs4 ss k j:=by
   unfold zs4;by_cases e2:j < k
   ·rw[if_pos e2,if_pos (by omega)]
   ·rw[if_neg e2,if_neg (by omega)]
  rw[q,zsu _ _ _ _ _ _ _ _ _ (by omega),zsu _ _ _ _ _ _ _ _ _ (by omega),zsu _ _ _ _ _ _ _ _ _ (by omega),zsu _ _ _ _ _ _ _ _ _ (by omega),zsu _ _ _ _ _ _ _ _ _ (by omega)];exact h.2 j hj
theorem zuu {B:Nat} {a w:Wo} (h:Below B a w) {g:Nat} (hg:B<=g) (o:Nat) (x0 x1 x2 x3 x4:Ba):Below B a (set5 w g o x0 x1 x2 x3 x4):=by
 unfold set5;exact ((((h.setCell (p:=⟨g,o,none⟩) hg _).setCell (p:=⟨g,o+1,none⟩) hg _).setCell (p:=⟨g,o+2,none⟩) hg _).setCell (p:=⟨g,o+3,none⟩) hg _).setCell (p:=⟨g,o+4,none⟩) hg _
theorem zvi (n:Nat) (h1:1<=n) (h5:n<=5) (w:Wo):(Instr.makeSlice 137 (.int .i64 (n:Int)) (.int .i64 (n:Int))).run Tryz.prog w = .ok (.slice (some ⟨w.heap.size,0,none⟩) n n) (w.alloc (.cells (Array.replicate (n*5) (.string ⟨#[]⟩)) 144)):=by
 rcases (by omega:n=1\/n=2\/n=3\/n=4\/n=5) with rfl|rfl|rfl|rfl|rfl
 ·kernel_rfl
 ·kernel_rfl
 ·kernel_rfl
 ·kernel_rfl
 ·kernel_rfl
theorem KAt.new (w:Wo) (t:TypeId) (ss:List Ba) (n:Nat):KAt (w.alloc (.cells (Array.replicate (n*5) (.string ⟨#[]⟩)) t)) w.heap.size ss n 0:=by
 refine⟨fun o=>by simp[go_sem],fun j hj => ?_⟩;have q:zs4 ss 0 j=(⟨#[]⟩,⟨#[]⟩,⟨#[]⟩,⟨#[]⟩,⟨#[]⟩):=if_neg (by omega);have key:∀p,p < n*5->(w.alloc (.cells (Array.replicate (n*5) (.string ⟨#[]⟩)) t)).cell? ⟨w.heap.size,p,none⟩=some (.string ⟨#[]⟩):=fun p hp=>by
  rw[World.cell?_alloc_new,Array.getElem?_replicate,if_pos hp]
 rw[q];exact⟨key _ (by omega),key _ (by omega),key _ (by omega),key _ (by omega),key _ (by omega)⟩
theorem KAt.keys {w:Wo} {g:Nat} {ss:List Ba} {n:Nat} (h:KAt w g ss n n) (hl:ss.length=n) (h5:n<=5):zsM w (.slice (some ⟨g,0,none⟩) n n) ss:=by
 refine⟨some ⟨g,0,none⟩,n,by rw[hl],by omega,by omega,fun i hi=>⟨g,0,rfl,?_⟩⟩;have:=h.2 i (by omega);have q:zs4 ss n i=(hdk (nth ss i) zo9 32,hdk (nth ss i) zr8 32,hdk (nth ss i) zpa 32,bld (nth ss i),hdk (nth ss i) zqe 16):=if_pos (by omega);rw[q] at this
 simpa using this
theorem ztA (w:Wo):zsM w (.slice none 0 0) []:=⟨none,0,rfl,nL _,by decide,fun i hi=>by simp at hi⟩
theorem ztB (seed:Ba) (a:Option Addr) (n cap:Nat) (b:Option Addr) (m cap2:Nat) (w:Wo) (e:Int) (he:¬e=0)
  (WR:Hid (Cl 102 #[.string seed,.slice a n cap,.slice b m cap2] w fun x w'=>x = .returned (.int .i64 e)/\Bw w w')) :
  Cl 59 #[.string seed,.slice a n cap,.slice b m cap2] w fun x w'=>x = .returned (.tuple #[.string ⟨#[]⟩,.slice none 0 0,.int .i64 e])/\Bw w w':=by
 go_enter Tryz.func59, Tryz.ntmps59;go_wp2_with fail;refine cM WR.out ?_;rintro x w1 ⟨rfl,hb1⟩;have B1:Hid (Bw w w1):=hb1;clear hb1 WR;go_wp2;go_ret3;exact⟨rfl,B1.out⟩
theorem zvj (seed:Ba) (a:Option Addr) (n cap:Nat) (b:Option Addr) (m cap2:Nat) (w:Wo)
  (WR:Hid (Cl 102 #[.string seed,.slice a n cap,.slice b m cap2] w fun x w'=>x = .returned (.int .i64 0)/\Bw w w'))
  (CH:Hid (∀w',Bw w w'->Cl 103 #[.string seed,.slice a n cap] w' fun x w''=>x = .returned (.tuple #[.slice none 0 0,.int .i64 20])/\Bw w' w'')) :
  Cl 59 #[.string seed,.slice a n cap,.slice b m cap2] w fun x w'=>x = .returned (.tuple #[.string ⟨#[]⟩,.slice none 0 0,.int .i64 20])/\Bw w w':=by
 go_enter Tryz.func59, Tryz.ntmps59;go_wp2_with fail;refine cM WR.out ?_;rintro x w1 ⟨rfl,hb1⟩;have B1:Hid (Bw w w1):=hb1;clear hb1 WR;go_wp2_with fail;refine cM (CH.out _ B1.out) ?_;rintro x w2 ⟨rfl,hb2⟩;have B2:Hid (Bw w w2):=chain B1.out hb2;clear hb2 CH B1;go_wp2;go_ret3;exact⟨rfl,B2.out⟩
theorem zwO (seed:Ba) (zs:Hid (seed.size=32)) (a:Option Addr) (n cap:Nat) (b:Option Addr) (hs:List Hp) (cap2:Nat) (w:Wo) (ss:List Ba) (hl:Hid (ss.length=n/\hs.length=n)) (h1:1<=n) (h5:n<=5) (hok:Hid (hs.all ok=true)) (hid:Hid (∀h∈hs,h.id.size<=140737488355328)) (hK:Hid (Kh w)) (hp:Hid (zfS w b hs))
  (WR:Hid (Cl 102 #[.string seed,.slice a n cap,.slice b n cap2] w fun x w'=>x = .returned (.int .i64 0)/\Below w.heap.size w w'))
  (CH:Hid (∀w',Below w.heap.size w w'->Cl 103 #[.string seed,.slice a n cap] w' fun x w''=>∃g c,x = .returned (.tuple #[.slice (some ⟨g,0,none⟩) n c,.int .i64 0])/\n<=c/\zsQ w'' (some ⟨g,0,none⟩) ss/\Below w'.heap.size w' w'')) :
  Cl 59 #[.string seed,.slice a n cap,.slice b n cap2] w fun x w'=>∃v,x = .returned (.tuple #[.string ⟨(za3 seed ss hs 0).toArray⟩,v,.int .i64 0])/\zsM w' v ss/\Below w.heap.size w w':=by
 have PU:Hid (∀w,Cl 31 #[.string seed] w fun e w'=>e = .returned (.tuple #[.string (ptB seed []),.int .i64 0])/\Below w.heap.size w w'):=fun w=>by
  rw[znb];exact Crv.Public_ok seed zs.out w
 have NE:Hid (∀(g c:Nat) (w':Wo),n<=c->zsQ w' (some ⟨g,0,none⟩) ss->Below w.heap.size w w'->Cl 104 #[.string seed,.slice (some ⟨g,0,none⟩) n c,.slice b n cap2] w' fun e w''=>e = .returned (.string (Ins seed ss hs n))/\Below w'.heap.size w' w''):=fun g c w' hc h hb =>
  zus seed (by have:=zs.out;show _<=_;omega) g 0 ss n c hl.out.1 hc b hs cap2 hl.out.2 h1 h5 hok hid w' (hK.out.later hb) h (hp.out.later hb rfl)
 have AD:∀w,(Op.stringOp .add (ptB seed []) (Ins seed ss hs n)).run Tryz.prog w = .ok (.string ⟨(za3 seed ss hs 0).toArray⟩) w:=fun w=>by
  have e:=zva seed ss hs (by rw[hl.out.2];exact h1);rw[hl.out.2] at e;rw[<-e];refine run_string_add_sum _ _ _ ?_;rw[zfZ,ztk seed ss hs hok.out (by rw[hl.out.2];exact⟨h1,h5⟩) n (by rw[hl.out.2];exact nL _)];decide
 have MK:=zvi n h1 h5;generalize (⟨(za3 seed ss hs 0).toArray⟩:Ba)=HD at *;generalize ptB seed []=PT at *;generalize Ins seed ss hs n=IN at *;go_enter Tryz.func59, Tryz.ntmps59;go_wp2_with fail;refine cM WR.out ?_;rintro x w1 ⟨rfl,hb1⟩;have B1:Hid (Below w.heap.size w w1):=hb1;clear hb1 WR;go_wp2_with fail;refine cM (CH.out _ B1.out) ?_;rintro x w2 ⟨g,c,rfl,hnc,hk2,hb2⟩;have B2:Hid (Below w.heap.size w w2/\zsQ w2 (some ⟨g,0,none⟩) ss/\n<=c):=⟨chain B1.out hb2,hk2,hnc⟩;clear hb2 CH B1 hk2 hnc;go_wp2_with fail;obtain⟨A,hA⟩:∃A,w2.alloc (.cells (Array.replicate (n*5) (.string ⟨#[]⟩)) 144)=A:=⟨_,rfl⟩;have J0:Hid (KAt A w2.heap.size ss n 0/\Below w2.heap.size w2 A/\w2.heap.size < A.heap.size):=by
  rw[<-hA];exact⟨KAt.new _ _ _ _,(bQ _ _).alloc (nL _) _,by simp[go_sem]⟩
 rw[hA];clear hA MK;obtain⟨gk,hgk⟩:∃gk,w2.heap.size=gk:=⟨_,rfl⟩;rw[hgk] at J0;rw[hgk];have HG:Hid (w2.heap.size=gk):=hgk;clear hgk;go_loopw [35] (fun iv wr=>∃k:Nat,k<=n/\iv = .int .i64 (k:Int)/\Hid (KAt wr gk ss n k/\Below gk w2 wr/\gk < wr.heap.size)) (fun iv _=>n - (intOf iv).toNat)
 case atStart=>exact⟨0,Nat.zero_le _,rfl,J0.out⟩
 case round =>
  obtain⟨k,hk,rfl,I⟩:=hrel;clear J0;by_cases hlt:k < n
  ·have g1:(k:Int) < (n:Int):=by omega
   have BW:Below w2.heap.size w2 wr:=by rw[HG.out];exact I.out.2.1
   obtain⟨b',o',he,c0,c1,c2,c3,c4,c5⟩:=B2.out.2.1.later BW k (by rw[hl.out.1];exact hlt);cases he;simp only[Nat.zero_add] at c0 c1 c2 c3 c4 c5;obtain⟨d0,d1,d2,d3,d4⟩:=I.out.1.2 k hlt;have STP:Hid (∀t,KAt ((set5 wr gk (k*5) (hdk (nth ss k) zo9 32) (hdk (nth ss k) zr8 32) (hdk (nth ss k) zpa 32) (bld (nth ss k)) (hdk (nth ss k) zqe 16)).alloc t) gk ss n (k+1)):=fun t=>KAt.later (by rw[ztz];exact I.out.2.2) (KAt.step I.out.1 hlt) ((bQ _ _).alloc (nL _) _)
   have BLP:Hid (∀(x0 x1 x2 x3 x4:Ba) t,Below gk w2 ((set5 wr gk (k*5) x0 x1 x2 x3 x4).alloc t)/\gk < ((set5 wr gk (k*5) x0 x1 x2 x3 x4).alloc t).heap.size):=fun x0 x1 x2 x3 x4 t=>by
    have h:=zuu I.out.2.1 (nL gk) (k*5) x0 x1 x2 x3 x4;have z:=ztz wr gk (k*5) x0 x1 x2 x3 x4;have q:=I.out.2.2;exact⟨h.alloc (by rw[z];omega) _,by rw[World.size_alloc,z];omega⟩
   have fz:=I.out.1.1;have z0:=fz (k*5);have z1:=fz (k*5+1);have z2:=fz (k*5+2);have z3:=fz (k*5+3);have z4:=fz (k*5+4);have glt:=I.out.2.2;generalize nth ss k=s at *;generalize hdk s zo9 32=k1 at *;generalize hdk s zr8 32=k2 at *;generalize hdk s zpa 32=k3 at *;generalize bld s=k4 at *;generalize hdk s zqe 16=k5 at *;clear BW fz;unfold set5 at STP BLP;clear I;go_wp2_with fail;exact⟨⟨k+1,by omega,by go_num,STP.out _,BLP.out _ _ _ _ _ _⟩,by simp[intOf];omega⟩
  ·obtain rfl:k=n:=by omega
   have g1:¬(k:Int) < (k:Int):=by omega
   have BW:Below w2.heap.size w2 wr:=by rw[HG.out];exact I.out.2.1
   have J1:Hid (KAt wr gk ss k k/\gk < wr.heap.size/\Below w.heap.size w wr/\zsQ wr (some ⟨g,0,none⟩) ss):=⟨I.out.1,I.out.2.2,chain B2.out.1 BW,B2.out.2.1.later BW⟩;clear BW I;go_wp2_with fail;refine cM (PU.out _) ?_;rintro x w3 ⟨rfl,hb3⟩;have J2:Hid (KAt w3 gk ss k k/\gk < w3.heap.size/\Below w.heap.size w w3/\zsQ w3 (some ⟨g,0,none⟩) ss):=⟨J1.out.1.later J1.out.2.1 hb3,Nat.lt_of_lt_of_le J1.out.2.1 hb3.size,chain J1.out.2.2.1 hb3,J1.out.2.2.2.later hb3⟩;clear hb3 J1 PU;go_wp2_with fail;refine cM (NE.out g c _ B2.out.2.2 J2.out.2.2.2 J2.out.2.2.1) ?_;rintro x w4 ⟨rfl,hb4⟩;have J3:Hid (zsM w4 (.slice (some ⟨gk,0,none⟩) k k) ss/\Below w.heap.size w w4):=⟨(J2.out.1.later J2.out.2.1 hb4).keys hl.out.1 h5,chain J2.out.2.2.1 hb4⟩;clear hb4 J2 NE;go_wp2;go_ret3;exact⟨_,rfl,J3.out.1,J3.out.2⟩
theorem zxg:zxa:=fun seed a pts n cap b hs m cap2 w hl hb zs zp hid hK hc hp=>by
 have WR:=zut seed a pts n cap b hs m cap2 w hl (by have:=hb.out;exact⟨by omega,by omega⟩) hid hc hp;by_cases he:ztD seed pts hs=0
 ·have hE:pth hs=0/\pts.length=hs.length/\seed.size=32/\Crv.wh pts=true:=by
   unfold ztD at he;by_cases q1:pth hs=0
   ·rw[if_pos q1] at he
    by_cases q2:pts.length=hs.length
    ·rw[if_pos q2] at he
     by_cases q3:seed.size=32/\(pts.all fun p=>p.size == 32)=true
     ·exact⟨q1,q2,q3.1,q3.2⟩
     ·rw[if_neg q3] at he;cases he
    ·rw[if_neg q2] at he;cases he
   ·rw[if_neg q1] at he;exact absurd he q1
  rw[he] at WR;obtain⟨q1,q2,q3,q4⟩:=hE;obtain⟨r1,r2,r3,-⟩:=zdf hs q1;obtain rfl:m=n:=by rw[<-hl.out.1,<-hl.out.2,q2]
  have l5:m<=5:=by rw[<-hl.out.2];exact r3
  have l1:1<=m:=by rw[<-hl.out.2];exact r2
  have CH:∀w',Bw w w'->Cl 103 #[.string seed,.slice a m cap] w' fun e w''=>ChP w' w'' seed pts m e:=fun w' h=>ztT seed q3 a pts m cap hl.out.1 l5 q4 w' (hK.out.later h) (hc.out.later h rfl)
  cases hsec:zpb seed pts [] with
  | none =>
   have e1:mkE seed pts hs=20:=by unfold mkE;rw[if_pos q1,if_pos q2,if_pos ⟨q3,q4⟩,hsec]
   have e2:mkS seed pts hs=[]:=by unfold mkS;rw[e1,if_neg (by decide)]
   have e3:mkH seed pts hs=⟨#[]⟩:=by unfold mkH;rw[e1,if_neg (by decide)]
   rw[e1,e2,e3];refine (zvj seed a m cap b m cap2 w WR (fun w' h=>(CH w' h).mono fun x w'' hx=>⟨hx.1 hsec,hx.2.2⟩)).mono ?_;rintro x w' ⟨rfl,hb'⟩;exact⟨_,rfl,ztA _,hb'⟩
  | some ss =>
   have e1:mkE seed pts hs=0:=by unfold mkE;rw[if_pos q1,if_pos q2,if_pos ⟨q3,q4⟩,hsec]
   have e2:mkS seed pts hs=ss:=by unfold mkS;rw[e1,if_pos rfl,hsec];rfl
   have e3:mkH seed pts hs=⟨(za3 seed ss hs 0).toArray⟩:=by unfold mkH;rw[e1,if_pos rfl,e2]
   rw[e1,e2,e3];have lss:ss.length=m:=by rw[<-hl.out.1];exact ztr _ _ _ _ _ hsec
   refine zwO seed q3 a m cap b hs cap2 w ss ⟨lss,hl.out.2⟩ l1 l5 r1 hid hK hp WR (fun w' h=>(CH w' h).mono fun x w'' hx => ?_);obtain⟨v,hv,ho⟩:=hx.2.1 ss hsec;obtain⟨-,hor⟩:=zv4 ho;rcases hor with ⟨-,q⟩|⟨g,c,rfl,hk,-,-,hnc,-⟩
   ·omega
   ·exact⟨g,c,hv,hnc,hk,hx.2.2⟩
 ·have e1:mkE seed pts hs=ztD seed pts hs/\¬mkE seed pts hs=0:=by
   have key:mkE seed pts hs=ztD seed pts hs:=by
    unfold mkE ztD;unfold ztD at he;by_cases q1:pth hs=0
    ·rw[if_pos q1] at he ⊢
     rw[if_pos q1];by_cases q2:pts.length=hs.length
     ·rw[if_pos q2] at he ⊢
      rw[if_pos q2];by_cases q3:seed.size=32/\(pts.all fun p=>p.size == 32)=true
      ·rw[if_pos q3] at he;exact absurd rfl he
      ·rw[if_neg q3,if_neg q3]
     ·rw[if_neg q2,if_neg q2]
    ·rw[if_neg q1,if_neg q1]
   exact⟨key,by rw[key];exact he⟩
  have e2:mkS seed pts hs=[]:=by unfold mkS;rw[if_neg e1.2]
  have e3:mkH seed pts hs=⟨#[]⟩:=by unfold mkH;rw[if_neg e1.2]
  rw[e2,e3,e1.1];refine (ztB seed a n cap b m cap2 w _ he WR).mono ?_;rintro x w' ⟨rfl,hb'⟩;exact⟨_,rfl,ztA _,hb'⟩
theorem zsw (tmps:Array Value) (w:Wo) (b c:Nat) (k n u d:Int) (id s k0 k1 k2 k3 k4:Ba) (e:Int) (h4:tmps.getD 4 undef = .pointer (some ⟨b,0,none⟩)) (h5:tmps.getD 5 undef = .string s) (h6:tmps.getD 6 undef = .pointer (some ⟨c,0,none⟩)) (h7:tmps.getD 7 undef = .int .i64 e) (l:zsd w b ⟨k,n,u,d,id⟩) (l2:Five w c k0 k1 k2 k3 k4) :
  (results Tryz.f162 tmps).run Tryz.prog w = .ok (.tuple #[.agg #[.int .i64 k,.int .i64 n,.int .i64 u,.int .i64 d,.string id],.string s,.agg #[.string k0,.string k1,.string k2,.string k3,.string k4],.int .i64 e]) w:=by
 have l1:=run_loadVar_mid (P:=Tryz.prog) w b 0 82 [.int .i64 k,.int .i64 n,.int .i64 u,.int .i64 d,.string id] _ l.range Tryz.underlying82 rfl (by kernel_rfl);have l3:=run_loadVar_mid (P:=Tryz.prog) w c 0 144 [.string k0,.string k1,.string k2,.string k3,.string k4] _ l2.range Tryz.underlying144 rfl (by kernel_rfl);unfold results;rw[Tryz.results162];have h4':tmps[4]?.getD undef = .pointer (some ⟨b,0,none⟩):=by simpa using h4
 have h5':tmps[5]?.getD undef = .string s:=by simpa using h5
 have h6':tmps[6]?.getD undef = .pointer (some ⟨c,0,none⟩):=by simpa using h6
 have h7':tmps[7]?.getD undef = .int .i64 e:=by simpa using h7
 simp[h4',h5',h6',h7',l1,l3,asAddr]
def Two (w W:Wo) (x:Hp) (k0 k1 k2 k3 k4:Ba):Prop:=zsd W w.heap.size x/\Five W (w.heap.size+1) k0 k1 k2 k3 k4/\Bw w W
theorem Two.later {w W W':Wo} {x:Hp} {k0 k1 k2 k3 k4:Ba} (h:Two w W x k0 k1 k2 k3 k4) (hb:Bw W W'):Two w W' x k0 k1 k2 k3 k4:=⟨h.1.later hb,h.2.1.later hb,chain h.2.2 hb⟩
theorem Two.new (w:Wo):Two w ((w.alloc (.cells #[.int .i64 0,.int .i64 0,.int .i64 0,.int .i64 0,.string ⟨#[]⟩] 82)).alloc (.cells #[.string ⟨#[]⟩,.string ⟨#[]⟩,.string ⟨#[]⟩,.string ⟨#[]⟩,.string ⟨#[]⟩] 144)) zh ⟨#[]⟩ ⟨#[]⟩ ⟨#[]⟩ ⟨#[]⟩ ⟨#[]⟩:=by
 refine⟨(zsd.fresh _ _ _ _ _ _ _).later ((bQ _ _).alloc (nL _) _),?_,((bQ _ _).alloc (nL _) _).alloc (by simp[go_sem]) _⟩;have:=Five.new (w.alloc (.cells #[.int .i64 0,.int .i64 0,.int .i64 0,.int .i64 0,.string ⟨#[]⟩] 82)) 144 ⟨#[]⟩ ⟨#[]⟩ ⟨#[]⟩ ⟨#[]⟩ ⟨#[]⟩
 simpa[go_sem] using this
theorem Five.other {w:Wo} {g b o:Nat} {v:Value} {k0 k1 k2 k3 k4:Ba} (h:Five w g k0 k1 k2 k3 k4) (hne:b≠g):Five (w.setCell ⟨b,o,none⟩ v) g k0 k1 k2 k3 k4:=by
 obtain⟨f,h0,h1,h2,h3,h4⟩:=h;have e:∀j,(w.setCell ⟨b,o,none⟩ v).cell? ⟨g,j,none⟩=w.cell? ⟨g,j,none⟩:=fun j=>by simp[go_sem]
 have e2:∀j,(w.setCell ⟨b,o,none⟩ v).frozen? ⟨g,j,none⟩=w.frozen? ⟨g,j,none⟩:=fun j=>by simp[go_sem]
 exact⟨fun j=>by rw[e2,f],by rw[e,h0],by rw[e,h1],by rw[e,h2],by rw[e,h3],by rw[e,h4]⟩
def putH (w:Wo) (g:Nat) (k n u d:Int) (id:Ba):Wo:=((((w.setCell ⟨g,0,none⟩ (.int .i64 k)).setCell ⟨g,1,none⟩ (.int .i64 n)).setCell ⟨g,2,none⟩ (.int .i64 u)).setCell ⟨g,3,none⟩ (.int .i64 d)).setCell ⟨g,4,none⟩ (.string id)
def putK (w:Wo) (g:Nat) (y0 y1 y2 y3 y4:Ba):Wo:=((((w.setCell ⟨g,0,none⟩ (.string y0)).setCell ⟨g,1,none⟩ (.string y1)).setCell ⟨g,2,none⟩ (.string y2)).setCell ⟨g,3,none⟩ (.string y3)).setCell ⟨g,4,none⟩ (.string y4)
theorem Two.putH {w W:Wo} {x:Hp} {k0 k1 k2 k3 k4:Ba} (h:Two w W x k0 k1 k2 k3 k4) (k n u d:Int) (id:Ba):Two w (putH W w.heap.size k n u d id) ⟨k,n,u,d,id⟩ k0 k1 k2 k3 k4:=by
 have hne:w.heap.size≠w.heap.size+1:=by omega
 have hb:w.heap.size<=w.heap.size:=nL _;unfold YtjcppbhgjchjaaaGreatDoor.putH;refine⟨h.1.whole k n u d id,((((h.2.1.other hne).other hne).other hne).other hne).other hne,((((h.2.2.setCell (p:=⟨w.heap.size,0,none⟩) hb _).setCell (p:=⟨w.heap.size,1,none⟩) hb _).setCell (p:=⟨w.heap.size,2,none⟩) hb _).setCell (p:=⟨w.heap.size,3,none⟩) hb _).setCell (p:=⟨w.heap.size,4,none⟩) hb _⟩
theorem Two.putK {w W:Wo} {x:Hp} {k0 k1 k2 k3 k4:Ba} (h:Two w W x k0 k1 k2 k3 k4) (y0 y1 y2 y3 y4:Ba):Two w (putK W (w.heap.size+1) y0 y1 y2 y3 y4) x y0 y1 y2 y3 y4:=by
 have hne:w.heap.size+1≠w.heap.size:=by omega
 have hb:w.heap.size<=w.heap.size+1:=by omega
 unfold YtjcppbhgjchjaaaGreatDoor.putK;refine⟨((((h.1.other (a:=⟨w.heap.size+1,0,none⟩) hne _).other (a:=⟨w.heap.size+1,1,none⟩) hne _).other (a:=⟨w.heap.size+1,2,none⟩) hne _).other (a:=⟨w.heap.size+1,3,none⟩) hne _).other (a:=⟨w.heap.size+1,4,none⟩) hne _,h.2.1.whole y0 y1 y2 y3 y4,zs9 h.2.2 hb _ _ _ _ _⟩
theorem Two.cells {w W:Wo} {k n u d:Int} {id k0 k1 k2 k3 k4:Ba} (h:Two w W ⟨k,n,u,d,id⟩ k0 k1 k2 k3 k4) :
  (W.cell? ⟨w.heap.size,0,none⟩=some (.int .i64 k)/\W.cell? ⟨w.heap.size,1,none⟩=some (.int .i64 n)/\W.cell? ⟨w.heap.size,2,none⟩=some (.int .i64 u)/\W.cell? ⟨w.heap.size,3,none⟩=some (.int .i64 d)/\W.cell? ⟨w.heap.size,4,none⟩=some (.string id))
  /\ (W.cell? ⟨w.heap.size+1,0,none⟩=some (.string k0)/\W.cell? ⟨w.heap.size+1,1,none⟩=some (.string k1)/\W.cell? ⟨w.heap.size+1,2,none⟩=some (.string k2)/\W.cell? ⟨w.heap.size+1,3,none⟩=some (.string k3)/\W.cell? ⟨w.heap.size+1,4,none⟩=some (.string k4))
  /\ (W.frozen? ⟨w.heap.size,0,none⟩=false/\W.frozen? ⟨w.heap.size,1,none⟩=false/\W.frozen? ⟨w.heap.size,2,none⟩=false/\W.frozen? ⟨w.heap.size,3,none⟩=false/\W.frozen? ⟨w.heap.size,4,none⟩=false)
  /\ (W.frozen? ⟨w.heap.size+1,0,none⟩=false/\W.frozen? ⟨w.heap.size+1,1,none⟩=false/\W.frozen? ⟨w.heap.size+1,2,none⟩=false/\W.frozen? ⟨w.heap.size+1,3,none⟩=false/\W.frozen? ⟨w.heap.size+1,4,none⟩=false) :=
 ⟨h.1.cells,h.2.1.2,⟨h.1.1 0,h.1.1 1,h.1.1 2,h.1.1 3,h.1.1 4⟩,⟨h.2.1.1 0,h.2.1.1 1,h.2.1.1 2,h.2.1.1 3,h.2.1.1 4⟩⟩
theorem zvk (p h:Ba) (hf:¬(p.size=32/\h.size=248)) (w:Wo) :
  Cl 162 #[.string p,.string h] w fun e w'=>e = .returned (.tuple #[hv zh,.string ⟨#[]⟩,kz,.int .i64 3])/\Bw w w':=by
 obtain⟨d,hd⟩:∃d:Bool,decide (p.size=32)=d:=⟨_,rfl⟩;have W1:Hid (∀(B:Nat) (w:Wo),w.cell? ⟨B,0,none⟩=some (.string p)->Cl 177 #[.slice (some ⟨B,0,none⟩) 1 1] w fun e w'=>e = .returned (.bool d)/\Bw w w'):=fun B w h=>by
  rw[<-hd];exact zsv p B w h
 have HD:Hid (d=true->((h.size:Int) != 248)=true):=fun q=>by
  rw[<-hd] at q;have:=of_decide_eq_true q;simp;omega
 clear hd hf;unfold hv zh kz;simp only;go_enter Tryz.func162, Tryz.ntmps162;go_wp2_with fail;refine cM (W1.out _ _ (by simp[go_sem])) ?_;rintro e W' ⟨rfl,hb1⟩;have J1:Hid (Two w W' ⟨0,0,0,0,⟨#[]⟩⟩ ⟨#[]⟩ ⟨#[]⟩ ⟨#[]⟩ ⟨#[]⟩ ⟨#[]⟩):=((Two.new w).later ((bQ _ _).alloc (nL _) _)).later hb1;clear hb1 W1;cases d with
 | false =>
  obtain⟨⟨a0,a1,a2,a3,a4⟩,⟨b0,b1,b2,b3,b4⟩,⟨fa0,fa1,fa2,fa3,fa4⟩,⟨fb0,fb1,fb2,fb3,fb4⟩⟩:=Two.cells J1.out;have FF:Hid (Two w (putK (putH W' w.heap.size 0 0 0 0 ⟨#[]⟩) (w.heap.size+1) ⟨#[]⟩ ⟨#[]⟩ ⟨#[]⟩ ⟨#[]⟩ ⟨#[]⟩) ⟨0,0,0,0,⟨#[]⟩⟩ ⟨#[]⟩ ⟨#[]⟩ ⟨#[]⟩ ⟨#[]⟩ ⟨#[]⟩):=(J1.out.putH 0 0 0 0 ⟨#[]⟩).putK ⟨#[]⟩ ⟨#[]⟩ ⟨#[]⟩ ⟨#[]⟩ ⟨#[]⟩;unfold YtjcppbhgjchjaaaGreatDoor.putH YtjcppbhgjchjaaaGreatDoor.putK at FF;go_wp2;refine bodyPost_ret (v := .tuple #[.agg #[.int .i64 0,.int .i64 0,.int .i64 0,.int .i64 0,.string ⟨#[]⟩],.string ⟨#[]⟩,.agg #[.string ⟨#[]⟩,.string ⟨#[]⟩,.string ⟨#[]⟩,.string ⟨#[]⟩,.string ⟨#[]⟩],.int .i64 3]) ?_ rfl ⟨rfl,FF.out.2.2⟩;exact zsw _ _ w.heap.size (w.heap.size+1) 0 0 0 0 ⟨#[]⟩ ⟨#[]⟩ ⟨#[]⟩ ⟨#[]⟩ ⟨#[]⟩ ⟨#[]⟩ ⟨#[]⟩ 3 (by kernel_rfl) (by kernel_rfl) (by kernel_rfl) (by kernel_rfl) FF.out.1 FF.out.2.1
 | true =>
  have g1:=HD.out rfl;obtain⟨⟨a0,a1,a2,a3,a4⟩,⟨b0,b1,b2,b3,b4⟩,⟨fa0,fa1,fa2,fa3,fa4⟩,⟨fb0,fb1,fb2,fb3,fb4⟩⟩:=Two.cells J1.out;have FF:Hid (Two w (putK (putH W' w.heap.size 0 0 0 0 ⟨#[]⟩) (w.heap.size+1) ⟨#[]⟩ ⟨#[]⟩ ⟨#[]⟩ ⟨#[]⟩ ⟨#[]⟩) ⟨0,0,0,0,⟨#[]⟩⟩ ⟨#[]⟩ ⟨#[]⟩ ⟨#[]⟩ ⟨#[]⟩ ⟨#[]⟩):=(J1.out.putH 0 0 0 0 ⟨#[]⟩).putK ⟨#[]⟩ ⟨#[]⟩ ⟨#[]⟩ ⟨#[]⟩ ⟨#[]⟩;unfold YtjcppbhgjchjaaaGreatDoor.putH YtjcppbhgjchjaaaGreatDoor.putK at FF;go_wp2;refine bodyPost_ret (v := .tuple #[.agg #[.int .i64 0,.int .i64 0,.int .i64 0,.int .i64 0,.string ⟨#[]⟩],.string ⟨#[]⟩,.agg #[.string ⟨#[]⟩,.string ⟨#[]⟩,.string ⟨#[]⟩,.string ⟨#[]⟩,.string ⟨#[]⟩],.int .i64 3]) ?_ rfl ⟨rfl,FF.out.2.2⟩;exact zsw _ _ w.heap.size (w.heap.size+1) 0 0 0 0 ⟨#[]⟩ ⟨#[]⟩ ⟨#[]⟩ ⟨#[]⟩ ⟨#[]⟩ ⟨#[]⟩ ⟨#[]⟩ 3 (by kernel_rfl) (by kernel_rfl) (by kernel_rfl) (by kernel_rfl) FF.out.1 FF.out.2.1
end Go.Proofs.YtjcppbhgjchjaaaGreatDoor
