/- Parts: YsJ,FBx. -/
import Derived.Test.YtjpaodepnacimaaGreatDoorZdG34
import Derived.Deep.CutBlock
import Derived.WalkKit
import Derived.ProofKit
import Derived.OpenShut
import Derived.ShutString
import Derived.ChangeOld
import Derived.ChangeArms
import Derived.SizedLaws
import Derived.Deep.Slices
import Derived.Deep.Fields
namespace Go.Proofs.YtjpaodepnacimaaGreatDoor
open Go.RowKit Go.Proofs.Fd Go.Proofs.Dk Go.Proofs.Lg Go.Proofs.Bx
set_option maxRecDepth 20000
structure Bac where
 k:Int
 u:Int
 n:Int
 x:ByteArray
 t:ByteArray
 ia:Option Addr
 im:Nat
 ic:Nat
 us:List Bs
 pa:Option Addr
 pn:Nat
 pc:Nat
 ps:List Int
structure Bac.L (w:World) (y:Bac):Prop where
 ids:TxAt w y.ia y.us
 idn:y.us.length=y.im
 idm:y.im*16≤140737488355328
 at_:IntAt w y.pa y.ps
 len:y.ps.length=y.pn
def BacAt (w:World) (a:Option Addr) (L:List Bac):Prop:=∀i (hi:i < L.length),∃b o,a=some ⟨b,o,none⟩∧w.cell? ⟨b,o+i*7,none⟩=some (.int .i64 L[i].k)∧w.cell? ⟨b,o+i*7+1,none⟩=some (.int .i64 L[i].u)∧w.cell? ⟨b,o+i*7+2,none⟩=some (.int .i64 L[i].n)∧w.cell? ⟨b,o+i*7+3,none⟩=some (.string L[i].x)∧w.cell? ⟨b,o+i*7+4,none⟩=some (.string L[i].t)∧w.cell? ⟨b,o+i*7+5,none⟩=some (.slice L[i].ia L[i].im L[i].ic)∧w.cell? ⟨b,o+i*7+6,none⟩=some (.slice L[i].pa L[i].pn L[i].pc)
theorem BacAt.later {W w1:World} {a:Option Addr} {L:List Bac} (h:BacAt W a L) (hb:Below W.heap.size W w1):BacAt w1 a L:=fun i hi=>by
 obtain⟨b,o,e,h0,h1,h2,h3,h4,h5,h6⟩:=h i hi
 exact⟨b,o,e,cell_later hb h0,cell_later hb h1,cell_later hb h2,cell_later hb h3,cell_later hb h4,cell_later hb h5,cell_later hb h6⟩
section
variable {w wr:World} {B:Nat} {most:Int} {p d:Nat} {s:St} {o:Oe}
theorem BoY.looks (h:BoY w wr B most p d s o):∃ps pk,wr.cell? ⟨d,3,none⟩=some (.bool s.down)∧wr.cell? ⟨d,4,none⟩=some (.int .i64 (s.n:Int))∧wr.cell? ⟨B,3,none⟩=some (.pointer ps)∧wr.cell? ⟨B,4,none⟩=some (.pointer pk)∧(o=none↔ps=none)∧(o=none↔pk=none):=by
 obtain⟨ps,pk,Ft,Gt,k⟩:=h
 obtain⟨G,at_,-⟩:=k.rp.at_
 obtain⟨-,sg,sc,v,-,hr⟩:=at_
 exact⟨ps,pk,hr.c3,hr.c4,k.bk.c 3 _ rfl,k.bk.c 4 _ rfl,k.nils.1,k.nils.2⟩
theorem BoY.reads (h:BoY w wr B most p d s o) (hl:s.l.length≤1000000) (j:Int):∃(T:ByteArray) (z:Int),Calls Tryz.prog 12 #[.pointer (some ⟨p,0,none⟩),.int .i64 j] wr (fun e w'=>e = .returned (.tuple #[.string T,.int .i64 z])∧w'=wr)∧Calls Tryz.prog 13 #[.pointer (some ⟨d,0,none⟩),.int .i64 j] wr (fun e w'=>e = .returned (.tuple #[.string T,.int .i64 z])∧w'=wr):=by
 obtain⟨ps,pk,U0,bx,-⟩:=h.start
 obtain⟨F,G,k,-,-⟩:=(bx wr (Below.refl _ _)).sx.sd
 exact⟨st (rdV s j),rch s j,readL w wr p F s j k.dl,rread_any d G s j wr k.at_ hl⟩
theorem BoY.lens {x:Lo} {E:List En} {q1 q2:Addr} (h:BoY w wr B most p d s (some (x,E))) (hE:E.length≤50000) (uE:Bx.Us E) (h3:wr.cell? ⟨B,3,none⟩=some (.pointer (some q1))) (h4:wr.cell? ⟨B,4,none⟩=some (.pointer (some q2))) (z:Int) :
  (∀W,Below wr.heap.size wr W→Calls Tryz.prog 10 #[.pointer (some q1),.int .i64 z] W fun e w1=>e = .returned (.int .i64 (lnX (ofE E) z:Int))∧w1=W)∧(∀W,Below wr.heap.size wr W→Calls Tryz.prog 11 #[.pointer (some q2),.int .i64 z] W fun e w1=>∃a c,e = .returned (.slice a (lnX (ofE E) z) c)∧Below W.heap.size W w1):=by
 obtain⟨ps,pk,U0,bx,-⟩:=h.start
 obtain⟨Ft,Gt,k,-,-⟩:=bx wr (Below.refl _ _)
 have e3:=k.bk.c 3 _ rfl
 have e4:=k.bk.c 4 _ rfl
 rw[h3] at e3
 rw[h4] at e4
 injection e3 with e3
 injection e3 with e3
 injection e4 with e4
 injection e4 with e4
 subst e3
 subst e4
 exact⟨fun W hb=>blenPY_any w wr U0 W B most p d s s x E _ _ _ z ((bx wr (Below.refl _ _)).later hb),fun W hb=>bofRY_any w wr U0 W B most p d s s x E _ _ _ z hE uE ((bx wr (Below.refl _ _)).later hb)⟩
end
theorem PsY.later {w:World} {B:Nat} {most:Int} {p d n k:Nat} {W:World} (h:PsY w B most p d n k W) {W':World} (hb:Below W.heap.size W W'):PsY w B most p d n k W':=by
 obtain⟨s,o,b,iv⟩:=h
 exact⟨s,o,b.later hb,iv⟩
theorem hp7_init (n:Nat):Hp (Hd7 1) (St.init n):=⟨fun _ _=>(cl7 1).zr,nofun⟩
set_option maxHeartbeats 1000000 in
theorem playY_no (n0:Int) (h:n0 < 1∨1024 < n0) (most:Int) (a:Option Addr) (len cap:Nat) (w:World) (hk:Hid (Kh w)) :
  Calls Tryz.prog 3 #[.int .i64 n0,.int .i64 most,.slice a len cap] w fun e w'=>e = .returned (.bool true)∧Below w.heap.size w w':=by
 have N1:Hid _:=new_no n0 h w
 have N2:Hid _:=rnew_no n0 h w
 have WK:Hid _:=lxworks_any w hk
 clear h hk
 go_enter Tryz.func3, Tryz.ntmps3
 go_wp2_with fail
 refine Calls.mono N1.out ?_
 rintro e w1 ⟨rfl,hw⟩
 subst hw
 clear N1
 go_wp2_with fail
 refine Calls.mono N2.out ?_
 rintro e w2 ⟨rfl,hw⟩
 subst hw
 clear N2
 go_wp2_with fail
 refine Calls.mono WK.out ?_
 rintro e w3 ⟨rfl,hb⟩
 have FF:Hid _:=hb
 clear hb WK
 go_wp2
 go_ret
 exact⟨rfl,FF.out⟩
set_option maxHeartbeats 1000000 in
theorem playY_great (n:Nat) (h1:80 < n) (h2:n≤1024) (most:Int) (a:Option Addr) (len cap:Nat) (w:World) (hk:Hid (Kh w)) :
  Calls Tryz.prog 3 #[.int .i64 (n:Int),.int .i64 most,.slice a len cap] w fun e w'=>e = .returned (.bool true)∧Below w.heap.size w w':=by
 have NW:Hid _:=newL w w n (by omega) h2 (Below.refl _ _)
 have RW:Hid (∀w,_):=rnew_any n (by omega) h2
 have WK:Hid (∀W,Below w.heap.size w W→_):=fun W hb=>lxworks_any W (hk.out.later hb)
 have g1:(80:Int) < (n:Int):=by omega
 obtain⟨z,hz⟩:∃z:Int,(n:Int)=z:=⟨_,rfl⟩
 rw[hz] at NW RW g1 ⊢
 clear h1 h2 hk hz
 go_enter Tryz.func3, Tryz.ntmps3
 go_wp2_with fail
 refine Calls.mono NW.out ?_
 rintro e w1 ⟨p,F,rfl,-,-,hb1⟩
 have BB1:Hid _:=hb1
 clear NW hb1
 go_wp2_with fail
 refine Calls.mono (RW.out _) ?_
 rintro e w2 ⟨d,G,rfl,-,-,hb2⟩
 have BB2:Hid (Below w.heap.size w w2):=chain BB1.out hb2
 clear RW hb2 BB1
 go_wp2_with fail
 refine Calls.mono (WK.out _ BB2.out) ?_
 rintro e w3 ⟨rfl,hb⟩
 have FF:Hid (Below w.heap.size w w3):=chain BB2.out hb
 clear hb WK BB2
 go_wp2
 go_ret
 exact⟨rfl,FF.out⟩
set_option maxHeartbeats 8000000 in
theorem BoxesPlay_walk (n0:Int) (most:Int) (a:Option Addr) (len cap:Nat) (L:List Bac) (hn:L.length=len) (w:World) (hk:Hid (Kh w)) (h:Hid (BacAt w a L)) (hL:Hid (∀x∈L,x.L w)) :
  Calls Tryz.prog 3 #[.int .i64 n0,.int .i64 most,.slice a len cap] w fun e w'=>e = .returned (.bool true)∧Below w.heap.size w w':=by
 by_cases hn0:n0 < 1∨1024 < n0
 ·exact playY_no n0 hn0 most a len cap w hk
 obtain⟨n,rfl⟩:∃n:Nat,n0=(n:Int):=⟨n0.toNat,by omega⟩
 have h1:1≤n:=by omega
 have h2:n≤1024:=by omega
 by_cases h80:80 < n
 ·exact playY_great n h80 h2 most a len cap w hk
 have HN:Hid (L.length=len):=hn
 have H80:Hid (n≤80):=Nat.le_of_not_lt h80
 have NW:Hid _:=newL w w n h1 h2 (Below.refl _ _)
 have RW:Hid (∀w,_):=rnew_any n h1 h2
 have WK:Hid (∀W,Below w.heap.size w W→_):=fun W hb=>lxworks_any W (hk.out.later hb)
 have ST:Hid (∀(W:World) (B p d k:Nat) (y:Bac),k≤30→y.L w→PsY w B most p d n k W→Calls Tryz.prog 9 #[.pointer (some ⟨B,0,none⟩),.agg #[.int .i64 y.k,.int .i64 y.u,.int .i64 y.n,.string y.x,.string y.t,.slice y.ia y.im y.ic,.slice y.pa y.pn y.pc]] W fun e w'=>e = .returned (.bool true)∧PsY w B most p d n (k+1) w'):=fun W B p d k y hk30 hy ⟨s,o,b,iv⟩=>bstepY_any w hk.out B most p d n k H80.out hk30 s o y.k y.u y.n y.x y.t y.ia y.im y.ic y.pa y.pn y.pc y.us hy.ids hy.idn hy.idm y.ps hy.at_ hy.len W b iv
 have OP:Hid (∀(W:World) (p d:Nat) (F G:Nat→Prop),Dl w W p F (St.init n)→DAt W d G (St.init n)→(∀z,F z→¬G z)→(∀z,G z→w.heap.size≤z)→Calls Tryz.prog 8 #[.pointer (some ⟨W.heap.size,0,none⟩)] (W.alloc (.cells #[.int .i64 most,.pointer (some ⟨p,0,none⟩),.pointer (some ⟨d,0,none⟩),.pointer none,.pointer none] 35)) fun e w'=>e = .returned (.bool true)∧PsY w W.heap.size most p d n 1 w'):=fun W p d F G k1 k2 k3 k4=>by
  have nb1:=nb W (.cells #[.int .i64 most,.pointer (some ⟨p,0,none⟩),.pointer (some ⟨d,0,none⟩),.pointer none,.pointer none] 35)
  have bk:Blk (W.alloc (.cells #[.int .i64 most,.pointer (some ⟨p,0,none⟩),.pointer (some ⟨d,0,none⟩),.pointer none,.pointer none] 35)) W.heap.size (btc most p d (.pointer none) (.pointer none)):=Blk.new W _ _ (by simp)
  exact bopenedY_any w _ (UU F G W.heap.size) _ W.heap.size most p d n 0 H80.out (by decide) (St.init n) none none hk.out rfl (hp7_init n) (Nat.zero_le _) ⟨F,G,⟨bk,k1.later nb1,k2.later nb1,k3,fun c=>Nat.lt_irrefl _ (k1.at_.lt c),fun c=>Nat.lt_irrefl _ (k2.lt c),k4,k1.below.size⟩,Nx.refl _ _,Bf.refl _ _⟩
 have g80:¬(80:Int) < (n:Int):=by omega
 obtain⟨z0,hz0⟩:∃z:Int,(n:Int)=z:=⟨_,rfl⟩
 rw[hz0] at NW RW g80 ⊢
 have HZ:Hid ((n:Int)=z0):=hz0
 clear hn hn0 h1 h2 h80 hk hz0
 go_enter Tryz.func3, Tryz.ntmps3
 go_wp2_with fail
 refine Calls.mono NW.out ?_
 rintro e w1 ⟨p,F,rfl,I1,-,-⟩
 have J1:Hid _:=I1
 clear NW I1
 go_wp2_with fail
 refine Calls.mono (RW.out _) ?_
 rintro e w2 ⟨d,G,rfl,k1,k2,k3⟩
 have J2:Hid (Dl w w2 p F (St.init n)∧DAt w2 d G (St.init n)∧(∀z,F z→¬G z)∧∀z,G z→w.heap.size≤z):=⟨J1.out.later k3,k1,fun g hg c=>by
  have:=J1.out.at_.lt hg
  have:=k2 g c
  omega,fun g hg=>Nat.le_trans J1.out.below.size (k2 g hg)⟩
 clear J1 k1 k2 k3 RW
 go_wp2_with fail
 refine Calls.mono (WK.out _ J2.out.1.below) ?_
 rintro e w3 ⟨rfl,hb3⟩
 have O3:Hid _:=OP.out w3 p d F G (J2.out.1.later hb3) (J2.out.2.1.later hb3) J2.out.2.2.1 J2.out.2.2.2
 clear J2 hb3 WK OP
 obtain⟨B,hB⟩:∃B,w3.heap.size=B:=⟨_,rfl⟩
 obtain⟨W4,hW4⟩:∃W,w3.alloc (.cells #[.int .i64 most,.pointer (some ⟨p,0,none⟩),.pointer (some ⟨d,0,none⟩),.pointer none,.pointer none] 35)=W:=⟨_,rfl⟩
 rw[hB,hW4] at O3
 go_wp2_with fail
 refine Calls.mono O3.out ?_
 rintro e w5 ⟨rfl,hp5⟩
 have J5:Hid _:=hp5
 clear O3 hp5 hB hW4
 go_wp2_with fail
 go_loopw [12] (fun i wr=>∃k:Nat,k≤len∧k≤30∧i = .int .i64 (k:Int)∧Hid (PsY w B most p d n (k+1) wr)) (fun i wr=>30 - (intOf i).toNat)
 case atStart=>exact⟨0,Nat.zero_le _,Nat.zero_le _,rfl,J5.out⟩
 case round =>
  obtain⟨k,hk,hk2,rfl,I⟩:=hrel
  obtain⟨wo,rfl⟩:∃W,W=wr:=⟨_,rfl⟩
  clear J5
  by_cases hlt:k < len
  ·by_cases h30:k < 30
   ·have g1:(k:Int) < (len:Int):=by omega
    have g2:(k:Int) < 30:=by omega
    have hkl:k < L.length:=by have:=HN.out;omega
    have BW:Below w.heap.size w wo:=by
     obtain⟨s,o,b,-⟩:=I.out
     exact b.below
    obtain⟨b,o,rfl,c0,c1,c2,c3,c4,c5,c6⟩:=(h.out.later BW) k hkl
    have HR:=hL.out L[k] (List.getElem_mem hkl)
    have S1:Hid _:=ST.out wo B p d (k+1) L[k] (by omega) HR I.out
    obtain⟨x,hx⟩:∃x,L[k]=x:=⟨_,rfl⟩
    rw[hx] at c0 c1 c2 c3 c4 c5 c6 S1
    obtain⟨xk,xu,xn,xx,xt,ia,im,ic,us,pa,pn,pc,ps⟩:=x
    simp only at c0 c1 c2 c3 c4 c5 c6 S1
    clear hx HR I BW
    go_wp2_with fail
    refine Calls.mono S1.out ?_
    rintro e w6 ⟨rfl,hp6⟩
    have J6:Hid _:=hp6
    clear S1 hp6 c0 c1 c2 c3 c4 c5 c6
    go_upto_block 2 with fail
    go_cut [13] (fun t wx=>Hid (PsY w B most p d n (k+1+1) wx))
    case first =>
     clear h hL HN ST H80 HZ
     go_wp2_with fail
     go_loopw [13] (fun i wr=>∃j:Int,-1≤j∧j≤5∧i = .int .i64 j∧Hid (PsY w B most p d n (k+1+1) wr)) (fun i wr=>(5 - intOf i).toNat)
     case atStart=>exact⟨-1,by decide,by decide,rfl,J6.out⟩
     case round =>
      obtain⟨j,hj1,hj2,rfl,I⟩:=hrel
      clear J6
      obtain⟨s,oo,b6,iv6⟩:=I.out
      obtain⟨ps1,pk1,d3,-,b3,b4,ips,ipk⟩:=b6.looks
      by_cases hj4:j≤4
      ·cases oo with
       | none =>
        obtain rfl:=ips.1 rfl
        clear ips ipk b6 iv6
        go_wp2
        go_meet
        case rel=>exact I.out
       | some xy =>
        obtain⟨x,E⟩:=xy
        obtain⟨hg,uE,gm,-⟩:=iv6.g x E rfl
        have eE:E.length≤50000:=by rw[←ofE_many E uE];exact Nat.le_trans gm.m (by omega)
        obtain⟨q1,rfl⟩:∃z,ps1=some z:=by
         cases ps1 with
         | none=>exact absurd (ips.2 rfl) (by simp)
         | some z=>exact⟨z,rfl⟩
        obtain⟨q2,rfl⟩:∃z,pk1=some z:=by
         cases pk1 with
         | none=>exact absurd (ipk.2 rfl) (by simp)
         | some z=>exact⟨z,rfl⟩
        obtain⟨E1,T1⟩:=b6.lens eE uE b3 b4 j
        clear ips ipk iv6 hg uE gm eE b6
        cases hdn:s.down with
        | true =>
         rw[hdn] at d3
         clear hdn E1 T1
         go_wp2
         go_meet
         case rel=>exact I.out
        | false =>
         rw[hdn] at d3
         clear hdn
         obtain⟨N,hN⟩:∃N,lnX (ofE E) j=N:=⟨_,rfl⟩
         rw[hN] at E1 T1
         have U1:Hid _:=E1
         have U2:Hid (∀W,Below wr.heap.size wr W→Calls Tryz.prog 11 #[.pointer (some q2),.int .i64 j] W fun e w1=>∃a c,e = .returned (.slice a N c)∧(w1.cell? ⟨B,3,none⟩=some (.pointer (some q1))∧w1.cell? ⟨B,4,none⟩=some (.pointer (some q2)))∧Hid (Below wr.heap.size wr w1)):=fun W hb=>(T1 W hb).mono fun _ _ ⟨a,c,x1,x3⟩=>⟨a,c,x1,⟨cell_later (chain hb x3) b3,cell_later (chain hb x3) b4⟩,chain hb x3⟩
         have BD:Hid (Below wr.heap.size wr wr.drew):=(Below.refl _ _).drew
         have s0:wr.drew.cell? ⟨B,3,none⟩=some (.pointer (some q1))∧wr.drew.cell? ⟨B,4,none⟩=some (.pointer (some q2)):=⟨cell_later BD.out b3,cell_later BD.out b4⟩
         clear hN E1 T1
         go_wp2_with fail
         clear b3 b4 d3
         go_region_held3 (fun w1=>w1.cell? ⟨B,3,none⟩=some (.pointer (some q1))∧w1.cell? ⟨B,4,none⟩=some (.pointer (some q2))) (first|exact s0|assumption) (first|(go_at_call 10;refine Calls.mono (U1.out _ (by first|exact BD.out|exact K8.out)) ?_;rintro e w7 ⟨rfl,rfl⟩)|(go_at_call 11;refine Calls.mono (U2.out _ BD.out) ?_;rintro e w8 ⟨t1,c1,rfl,s8,K8⟩))
         all_goals
          have FF:Hid (PsY w B most p d n (k+1+1) w8):=I.out.later K8.out
          clear U1 U2 I BD s0 s8 K8
          go_wp2
          go_roundw
          case rel=>exact⟨j+1,by omega,by omega,by go_num,FF.out⟩
          case measure=>simp[intOf];omega
      ·clear ips ipk b6 iv6
       go_wp2
       go_meet
       case rel=>exact I.out
    case rest =>
     have J:Hid (PsY w B most p d n (k+1+1) wc):=hcut
     clear J6 hcut
     have RD:Hid (∀j:Int,∃(T:ByteArray) (z:Int),Calls Tryz.prog 12 #[.pointer (some ⟨p,0,none⟩),.int .i64 j] wc (fun e w'=>e = .returned (.tuple #[.string T,.int .i64 z])∧w'=wc)∧Calls Tryz.prog 13 #[.pointer (some ⟨d,0,none⟩),.int .i64 j] wc (fun e w'=>e = .returned (.tuple #[.string T,.int .i64 z])∧w'=wc)):=by
      obtain⟨s,oo,b7,iv7⟩:=J.out
      exact fun j=>b7.reads (by have:=iv7.l;omega) j
     have d4:wc.cell? ⟨d,4,none⟩=some (.int .i64 z0):=by
      obtain⟨s,oo,b7,iv7⟩:=J.out
      obtain⟨-,-,-,this,-⟩:=b7.looks
      rw[iv7.n,HZ.out] at this
      exact this
     have N80:z0≤80:=by omega
     clear g1 g2
     obtain⟨wz,hwz⟩:∃W,wc=W:=⟨_,rfl⟩
     subst hwz
     go_wp2_with fail
     go_loopw [14] (fun i wr=>∃j:Nat,(j:Int)≤z0∧i = .int .i64 (j:Int)∧wc=wr) (fun i wr=>80 - (intOf i).toNat)
     case atStart=>exact⟨0,by have:=HZ.out;omega,rfl,rfl⟩
     case round =>
      obtain⟨j,hj,rfl,hwr⟩:=hrel
      subst hwr
      by_cases hjn:(j:Int) < z0
      ·have hj80:j < 80:=by omega
       obtain⟨T,z,R1,R2⟩:=RD.out (j:Int)
       have R1':Hid _:=R1
       have R2':Hid _:=R2
       clear R1 R2
       go_wp2_with fail
       refine Calls.mono R1'.out ?_
       rintro e w11 ⟨rfl,hw11⟩
       subst hw11
       go_wp2_with fail
       refine Calls.mono R2'.out ?_
       rintro e w12 ⟨rfl,hw12⟩
       subst hw12
       clear R1' R2'
       go_wp2
       go_roundw
       case rel=>exact⟨j+1,by omega,by go_num,by first|rfl|trivial⟩
       case measure=>simp[intOf];omega
      ·go_wp2
       go_roundw
       case rel=>exact⟨k+1,by omega,by omega,by go_num,J.out⟩
       case measure=>simp[intOf];omega
   ·obtain rfl:k=30:=by omega
    have g1:((30:Nat):Int) < (len:Int):=by omega
    have FF:Hid (Below w.heap.size w wo):=by
     obtain⟨s,o,b,-⟩:=I.out
     exact b.below
    clear I
    go_wp2
    go_ret
    exact⟨rfl,FF.out⟩
  ·obtain rfl:k=len:=by omega
   have FF:Hid (Below w.heap.size w wo):=by
    obtain⟨s,o,b,-⟩:=I.out
    exact b.below
   clear I
   go_wp2
   go_ret
   exact⟨rfl,FF.out⟩
end Go.Proofs.YtjpaodepnacimaaGreatDoor
namespace Go.Proofs.YtjpaodepnacimaaGreatDoor
open Go.ChangeShapes Go.WideShapes Go.Deep Go.RowKit Go.Proofs.Fd Go.Proofs.Dk Go.Proofs.Lg Go.Proofs.Bx
set_option maxRecDepth 20000
section
variable {H:Type} {enc:TypeId×Value→H} {w:World} {base:Nat} {sp:Nat→Bool} {held:Bool}
theorem add_up (b o k:Nat):Addr.add ⟨b,o,none⟩ k=⟨b,o+k,none⟩:=by first|(simp[Addr.add];done)|(simp[Addr.add];intro h;simp[h])
theorem weights_all {P:Program} {e:TypeId}:∀{l:List (DataW H)} {d:DataW H},d∈l→∀n∈d.weights P e,n∈DataW.weightsAll P e l
 | [],_,h,_,_=>by cases h
 | x::l,d,h,n,hn=>by
  rw[DataW.weightsAll,List.mem_append]
  rcases List.mem_cons.1 h with rfl|h
  ·exact .inl hn
  ·exact .inr (weights_all h n hn)
theorem nums_of {fuel:Nat} {cs:List Value} {x:DataW H×List MemPlace} (hf:DataW.trod enc Tryz.prog w base sp held fuel 38 cs=some x) (hw:∀n∈x.1.weights Tryz.prog 38, n≤reachBytes) :
  ∃a n c is,cs=[.slice a n c]∧IntAt w a is∧is.length=n∧(a=none→n=0∧c=0)∧n*8≤140737488351232:=by
 rcases open_slice1 Tryz.underlying38 (by kernel_rfl) hf with ⟨h0,rfl⟩|⟨a,len,cap,m,n,V,D,Pl,rfl,hb,hl,hm,hmm,rfl,hx⟩
 ·exact⟨none,0,0,[],h0,fun i hi=>absurd hi (Nat.not_lt_zero _),rfl,fun _=>⟨rfl,rfl⟩,by decide⟩
 have hlm:len≤m:=by rw[hmm];split <;> omega
 obtain⟨f,hfn⟩:=choose_lt (n:=len) (p:=fun i (z:Int)=>w.cell? (a.add i)=some (.int .i64 z)) (fun i hi=>by
  obtain⟨h1,h2⟩:=hx i (by omega)
  obtain⟨z,hz,-⟩:=DataW.trod_int Tryz.underlying3 h2
  have e:V i = .int .i64 z:=by injection hz
  exact⟨z,by rw[h1,e]⟩)
 have hz:(len+(m - len))*Tryz.prog.bytesOf 3 ≤ reachBytes:=hw _ (by simp[DataW.weights,Tryz.underlying38])
 rw[show Tryz.prog.bytesOf 3 = 8 by kernel_rfl] at hz
 unfold reachBytes at hz
 refine⟨some a,len,cap,(List.range len).map f,rfl,fun i hi => ?_,by simp,nofun,by omega⟩
 have hi':i < len:=by simpa using hi
 have hsp:a.spot=none:=by
  have:=World.cell?_spot (hfn 0 (by omega))
  simpa[Addr.add] using this
 obtain⟨b,o,spot⟩:=a
 simp only at hsp
 subst hsp
 have e0:=hfn i hi'
 rw[add_up] at e0
 refine⟨b,o,rfl,?_⟩
 rw[List.getElem_map,List.getElem_range]
 exact e0
theorem st_tl (c:ByteArray):st c.data.toList=c:=by
 cases c
 rfl
theorem texts_of {fuel:Nat} {cs:List Value} {x:DataW H×List MemPlace} (hf:DataW.trod enc Tryz.prog w base sp held fuel 37 cs=some x) (hw:∀n∈x.1.weights Tryz.prog 37, n≤reachBytes) :
  ∃a n c ts,cs=[.slice a n c]∧TxAt w a ts∧ts.length=n∧n*16≤140737488351232:=by
 rcases open_slice1 Tryz.underlying37 (by kernel_rfl) hf with ⟨h0,rfl⟩|⟨a,len,cap,m,n,V,D,Pl,rfl,hb,hl,hm,hmm,rfl,hx⟩
 ·exact⟨none,0,0,[],h0,fun i hi=>absurd hi (Nat.not_lt_zero _),rfl,by decide⟩
 have hlm:len≤m:=by rw[hmm];split <;> omega
 obtain⟨f,hfn⟩:=@choose_lt ByteArray ⟨⟨#[]⟩⟩ len (fun i (z:ByteArray)=>w.cell? (a.add i)=some (.string z)) (fun i hi=>by
  obtain⟨h1,h2⟩:=hx i (by omega)
  obtain⟨z,hz,-⟩:=DataW.trod_string Tryz.underlying9 h2
  have e:V i = .string z:=by injection hz
  exact⟨z,by rw[h1,e]⟩)
 have hz:(len+(m - len))*Tryz.prog.bytesOf 9 ≤ reachBytes:=hw _ (by simp[DataW.weights,Tryz.underlying37])
 rw[show Tryz.prog.bytesOf 9 = 16 by kernel_rfl] at hz
 unfold reachBytes at hz
 refine⟨some a,len,cap,(List.range len).map (fun i=>(f i).data.toList),rfl,fun i hi => ?_,by simp,by omega⟩
 have hi':i < len:=by simpa using hi
 have hsp:a.spot=none:=by
  have:=World.cell?_spot (hfn 0 (by omega))
  simpa[Addr.add] using this
 obtain⟨b,o,spot⟩:=a
 simp only at hsp
 subst hsp
 have e0:=hfn i hi'
 rw[add_up] at e0
 refine⟨b,o,rfl,?_⟩
 rw[List.getElem_map,List.getElem_range]
 show w.cell? _=some (Value.string (st (f i).data.toList))
 rw[st_tl]
 exact e0
theorem bact_of {fuel:Nat} {cs:List Value} {x:DataW H×List MemPlace} (hf:DataW.trod enc Tryz.prog w base sp held fuel 40 cs=some x) (hw:∀n∈x.1.weights Tryz.prog 40, n≤reachBytes):∃s:Bac,cs=[.int .i64 s.k,.int .i64 s.u,.int .i64 s.n,.string s.x,.string s.t,.slice s.ia s.im s.ic,.slice s.pa s.pn s.pc]∧s.L w:=by
 obtain⟨xs,n,rfl,rfl,hl,hxl,hff⟩:=DataW.trod_struct Tryz.underlying40 hf
 rw[show Tryz.prog.cellsOf 40 = 7 by kernel_rfl] at hl
 obtain⟨y0,y1,y2,y3,y4,y5,y6,rfl⟩:∃y0 y1 y2 y3 y4 y5 y6,cs=[y0,y1,y2,y3,y4,y5,y6]:=by
  match cs,hl with
  | [y0,y1,y2,y3,y4,y5,y6],_=>exact⟨y0,y1,y2,y3,y4,y5,y6,rfl⟩
 obtain⟨x0,x1,x2,x3,x4,x5,x6,rfl⟩:∃x0 x1 x2 x3 x4 x5 x6,xs=[x0,x1,x2,x3,x4,x5,x6]:=by
  match xs,hxl with
  | [x0,x1,x2,x3,x4,x5,x6],_=>exact⟨x0,x1,x2,x3,x4,x5,x6,rfl⟩
 have cc:Tryz.prog.cellsOf 3 = 1:=by kernel_rfl
 have ct:Tryz.prog.cellsOf 9 = 1:=by kernel_rfl
 have cp:Tryz.prog.cellsOf 38 = 1:=by kernel_rfl
 have cq:Tryz.prog.cellsOf 37 = 1:=by kernel_rfl
 have g0:DataW.trod enc Tryz.prog w base sp held n 3 (List.take (Tryz.prog.cellsOf 3) (List.drop 0 [y0,y1,y2,y3,y4,y5,y6]))=some x0:=hff 0 _ rfl
 have g1:DataW.trod enc Tryz.prog w base sp held n 3 (List.take (Tryz.prog.cellsOf 3) (List.drop 1 [y0,y1,y2,y3,y4,y5,y6]))=some x1:=hff 1 _ rfl
 have g2:DataW.trod enc Tryz.prog w base sp held n 3 (List.take (Tryz.prog.cellsOf 3) (List.drop 2 [y0,y1,y2,y3,y4,y5,y6]))=some x2:=hff 2 _ rfl
 have g3:DataW.trod enc Tryz.prog w base sp held n 9 (List.take (Tryz.prog.cellsOf 9) (List.drop 3 [y0,y1,y2,y3,y4,y5,y6]))=some x3:=hff 3 _ rfl
 have g4:DataW.trod enc Tryz.prog w base sp held n 9 (List.take (Tryz.prog.cellsOf 9) (List.drop 4 [y0,y1,y2,y3,y4,y5,y6]))=some x4:=hff 4 _ rfl
 have g5:DataW.trod enc Tryz.prog w base sp held n 37 (List.take (Tryz.prog.cellsOf 37) (List.drop 5 [y0,y1,y2,y3,y4,y5,y6]))=some x5:=hff 5 _ rfl
 have g6:DataW.trod enc Tryz.prog w base sp held n 38 (List.take (Tryz.prog.cellsOf 38) (List.drop 6 [y0,y1,y2,y3,y4,y5,y6]))=some x6:=hff 6 _ rfl
 rw[cc] at g0 g1 g2
 rw[ct] at g3 g4
 rw[cq] at g5
 rw[cp] at g6
 obtain⟨a,ha,-⟩:=DataW.trod_int Tryz.underlying3 g0
 obtain⟨b,hb,-⟩:=DataW.trod_int Tryz.underlying3 g1
 obtain⟨b2,hb2,-⟩:=DataW.trod_int Tryz.underlying3 g2
 obtain⟨c,hc,-⟩:=DataW.trod_string Tryz.underlying9 g3
 obtain⟨c2,hc2,-⟩:=DataW.trod_string Tryz.underlying9 g4
 obtain⟨ta,tn,tc,ts,ht,t1,t2,t3⟩:=texts_of g5 (fun q hq=>hw q (by
  simp only[DataW.weights,Tryz.underlying40]
  exact DataW.weights_mem_each (j:=5) (t := 37) (d:=x5.1) rfl rfl q hq))
 obtain⟨pa,pn,pc,ps,hp,p1,p2,p3,p4⟩:=nums_of g6 (fun q hq=>hw q (by
  simp only[DataW.weights,Tryz.underlying40]
  exact DataW.weights_mem_each (j:=6) (t := 38) (d:=x6.1) rfl rfl q hq))
 have ha':[y0]=[.int .i64 a]:=ha
 have hb':[y1]=[.int .i64 b]:=hb
 have hb2':[y2]=[.int .i64 b2]:=hb2
 have hc':[y3]=[.string c]:=hc
 have hc2':[y4]=[.string c2]:=hc2
 have ht':[y5]=[.slice ta tn tc]:=ht
 have hp':[y6]=[.slice pa pn pc]:=hp
 cases ha'
 cases hb'
 cases hb2'
 cases hc'
 cases hc2'
 cases ht'
 cases hp'
 exact⟨⟨a,b,b2,c,c2,ta,tn,tc,ts,pa,pn,pc,ps⟩,rfl,t1,t2,by show tn*16≤_;omega,p1,p2⟩
theorem bacs_of {fuel:Nat} {cs:List Value} {x:DataW H×List MemPlace} (hf:DataW.trod enc Tryz.prog w base sp held fuel 22 cs=some x) (hw:∀n∈x.1.weights Tryz.prog 22, n≤reachBytes) :
  ∃a n c ss,cs=[.slice a n c]∧BacAt w a ss∧ss.length=n∧∀x∈ss,x.L w:=by
 rcases open_slice Tryz.underlying22 hf with ⟨h0,rfl⟩|⟨a,len,cap,m,n,D,Pl,rfl,hb,hl,hm,hmm,rfl,hx⟩
 ·exact⟨none,0,0,[],h0,fun i hi=>absurd hi (Nat.not_lt_zero _),rfl,fun x hx=>by cases hx⟩
 have hlm:len≤m:=by rw[hmm];split <;> omega
 obtain⟨f,hfn⟩:=@choose_lt Bac ⟨⟨0,0,0,⟨#[]⟩,⟨#[]⟩,none,0,0,[],none,0,0,[]⟩⟩ len (fun i (h:Bac)=>(w.cell? (a.add (i*7))=some (.int .i64 h.k)∧w.cell? (a.add (i*7+1))=some (.int .i64 h.u)∧w.cell? (a.add (i*7+2))=some (.int .i64 h.n)∧w.cell? (a.add (i*7+3))=some (.string h.x)∧w.cell? (a.add (i*7+4))=some (.string h.t)∧w.cell? (a.add (i*7+5))=some (.slice h.ia h.im h.ic)∧w.cell? (a.add (i*7+6))=some (.slice h.pa h.pn h.pc))∧h.L w) (fun i hi=>by
  obtain⟨cs',h1,h2⟩:=hx i (by omega)
  obtain⟨h,rfl,hr⟩:=bact_of h2 (fun q hq=>hw q (by
   simp only[DataW.weights,Tryz.underlying22]
   refine List.mem_cons_of_mem _ (List.mem_append.2 (.inl (weights_all (d:=D i) ?_ q hq)))
   exact List.mem_map.2 ⟨i,List.mem_range.2 hi,rfl⟩))
  rw[show Tryz.prog.cellsOf 40 = 7 by kernel_rfl] at h1
  obtain⟨-,-,hc⟩:=World.cells?_some h1
  have e0:=hc 0 (by omega)
  have e1:=hc 1 (by omega)
  have e2:=hc 2 (by omega)
  have e3:=hc 3 (by omega)
  have e4:=hc 4 (by omega)
  have e5:=hc 5 (by omega)
  have e6:=hc 6 (by omega)
  rw[add_add] at e0 e1 e2 e3 e4 e5 e6
  exact⟨h,⟨e0,e1,e2,e3,e4,e5,e6⟩,hr⟩)
 refine⟨some a,len,cap,(List.range len).map f,rfl,fun i hi => ?_,by simp,fun x hx => ?_⟩
 ·have hi':i < len:=by simpa using hi
  have hsp:a.spot=none:=by
   have:=World.cell?_spot (hfn 0 (by omega)).1.1
   simpa[Addr.add] using this
  obtain⟨b,o,spot⟩:=a
  simp only at hsp
  subst hsp
  obtain⟨⟨e0,e1,e2,e3,e4,e5,e6⟩,-⟩:=hfn i hi'
  rw[add_up] at e0 e1 e2 e3 e4 e5 e6
  refine⟨b,o,rfl,?_⟩
  rw[List.getElem_map,List.getElem_range]
  exact⟨e0,by rw[Nat.add_assoc];exact e1,by rw[Nat.add_assoc];exact e2,by rw[Nat.add_assoc];exact e3,by rw[Nat.add_assoc];exact e4,by rw[Nat.add_assoc];exact e5,by rw[Nat.add_assoc];exact e6⟩
 ·rw[List.mem_map] at hx
  obtain⟨i,hi,rfl⟩:=hx
  exact (hfn i (List.mem_range.1 hi)).2
end
end Go.Proofs.YtjpaodepnacimaaGreatDoor
