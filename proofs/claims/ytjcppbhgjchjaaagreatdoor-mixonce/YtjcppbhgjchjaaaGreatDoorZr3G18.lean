/- A part of the walk. -/
import Derived.Test.YtjcppbhgjchjaaaGreatDoorZr3G11
import Derived.BigRegion
set_option maxHeartbeats 8000000
set_option maxRecDepth 20000
namespace Go.Proofs.Cc
open Go.Proofs.Hs (trn)
def lft (x:UInt32) (n:Nat):UInt32:=trn x (32 - n)
def hq (n m:Nat) (w:List UInt32) (a b c d:Nat):List UInt32 :=
 let w1:=w.set a (w.getD a 0+w.getD b 0)
 let w2:=w1.set d (lft (w1.getD d 0 ^^^ w1.getD a 0) n)
 let w3:=w2.set c (w2.getD c 0+w2.getD d 0)
 w3.set b (lft (w3.getD b 0 ^^^ w3.getD c 0) m)
def qr (w:List UInt32) (a b c d:Nat):List UInt32:=hq 8 7 (hq 16 12 w a b c d) a b c d
theorem zwR (n m:Nat) (w:List UInt32) (a b c d:Nat):(hq n m w a b c d).length=w.length:=by simp[hq]
theorem zuv (w:List UInt32) (a b c d:Nat):(qr w a b c d).length=w.length:=by simp[qr,zwR]
def zr4 (w:List UInt32):Nat->List UInt32
 | 0=>w
 | k+1=>qr (zr4 w k) k (4+k) (8+k) (12+k)
def zr5 (w:List UInt32):Nat->List UInt32
 | 0=>w
 | k+1=>qr (zr5 w k) k (4+(k+1) % 4) (8+(k+2) % 4) (12+(k+3) % 4)
theorem zvq (w:List UInt32) (k:Nat):(zr4 w k).length=w.length:=by
 induction k with
 | zero=>rfl
 | succ k ih=>rw[zr4,zuv,ih]
theorem zvr (w:List UInt32) (k:Nat):(zr5 w k).length=w.length:=by
 induction k with
 | zero=>rfl
 | succ k ih=>rw[zr5,zuv,ih]
def rounds (w:List UInt32):Nat->List UInt32
 | 0=>w
 | i+1=>zr5 (zr4 (rounds w i) 4) 4
theorem zt8 (w:List UInt32) (i:Nat):(rounds w i).length=w.length:=by
 induction i with
 | zero=>rfl
 | succ i ih=>rw[rounds,zvr,zvq,ih]
def le4 (x:UInt32):List UInt8:=[UInt8.ofNat x.toNat,UInt8.ofNat (x.toNat / 256),UInt8.ofNat (x.toNat / 65536),UInt8.ofNat (x.toNat / 16777216)]
def rdw (l:List UInt8) (i:Nat):UInt32:=UInt32.ofNat ((l.getD (4*i) 0).toNat+(l.getD (4*i+1) 0).toNat*256+(l.getD (4*i+2) 0).toNat*65536+(l.getD (4*i+3) 0).toNat*16777216)
def rd (l:List UInt8) (n:Nat):List UInt32:=(List.range n).map (rdw l)
theorem zsx (l:List UInt8) (n:Nat):(rd l n).length=n:=by simp[rd]
theorem zuw (l:List UInt8) (n:Nat):rd l (n+1)=rd l n++[rdw l n]:=by simp[rd,List.range_succ]
def zr6 (k n:List UInt8) (c:UInt32):List UInt32:=[1634760805,857760878,2036477234,1797285236]++rd k 8++[c]++rd n 3
theorem zsG (k n:List UInt8) (c:UInt32):(zr6 k n c).length=16:=by simp[zr6,zsx]
def zr7 (k n:List UInt8) (c:UInt32) (i:Nat):UInt32:=(rounds (zr6 k n c) 10).getD i 0+(zr6 k n c).getD i 0
def zoR (k n:List UInt8) (c:UInt32) (i:Nat):List UInt8:=(List.range i).flatMap fun j=>le4 (zr7 k n c j)
def blk (k n:List UInt8) (c:UInt32):List UInt8:=zoR k n c 16
theorem zhU (k n:List UInt8) (c:UInt32) (i:Nat):zoR k n c (i+1)=zoR k n c i++le4 (zr7 k n c i):=by simp[zoR,List.range_succ]
theorem zki (k n:List UInt8) (c:UInt32) (i:Nat):(zoR k n c i).length=4*i:=by
 induction i with
 | zero=>rfl
 | succ i ih=>rw[zhU,List.length_append,ih];simp[le4];omega
theorem zmH (k n:List UInt8) (c:UInt32):(blk k n c).length=64:=zki k n c 16
def zoS (k n:List UInt8) (c:UInt32):Nat->List UInt8
 | 0=>[]
 | i+1=>zoS k n c i++blk k n (c+UInt32.ofNat i)
theorem zhV (k n:List UInt8) (c:UInt32) (i:Nat):zoS k n c (i+1)=zoS k n c i++blk k n (c+UInt32.ofNat i):=rfl
theorem zkj (k n:List UInt8) (c:UInt32) (i:Nat):(zoS k n c i).length=64*i:=by
 induction i with
 | zero=>rfl
 | succ i ih=>rw[zhV,List.length_append,ih,zmH];omega
theorem zux (k n:List UInt8) (c:UInt32) (i j m:Nat) (h:m<=64*i):(zoS k n c (i+j)).take m=(zoS k n c i).take m:=by
 induction j with
 | zero=>rfl
 | succ j ih =>
  rw[<-Nat.add_assoc,zhV,List.take_append_of_le_length (by rw[zkj];omega),ih]
def zqb (k n:List UInt8) (c:UInt32) (m:Nat):List UInt8:=(zoS k n c ((m+63) / 64)).take m
theorem ztF (k n:List UInt8) (c:UInt32) (m i:Nat) (h:m<=64*i):(zoS k n c i).take m=zqb k n c m:=by
 unfold zqb;obtain⟨j,rfl⟩:∃j,i=(m+63) / 64+j:=⟨i - (m+63) / 64,by omega⟩;exact zux k n c _ j m (by omega)
theorem zfR (k n:List UInt8) (c:UInt32) (m:Nat):(zqb k n c m).length=m:=by
 unfold zqb;rw[List.length_take,zkj];omega
theorem zvs (k n:List UInt8) (c:UInt32) (i j:Nat):zoS k n c (i+j)=zoS k n c i++zoS k n (c+UInt32.ofNat i) j:=by
 induction j with
 | zero=>simp[zoS]
 | succ j ih =>
  rw[<-Nat.add_assoc,zhV,ih,zhV,List.append_assoc];congr 3;rw[UInt32.add_assoc];congr 1;apply UInt32.toNat_inj.1;rw[UInt32.toNat_add,UInt32.toNat_ofNat',UInt32.toNat_ofNat',UInt32.toNat_ofNat'];omega
def za0 (a b:List UInt8):List UInt8:=List.zipWith (fun x y=>x ^^^ y) a b
theorem zaQ (a b:List UInt8) (h:a.length<=b.length):(za0 a b).length=a.length:=by simp[za0];omega
theorem zbP (a b:List UInt8) (h:a.length<=b.length):za0 (za0 a b) b=a:=by
 apply List.ext_getElem (by simp[za0];omega);intro i h1 h2;simp only[za0,List.getElem_zipWith];rw[UInt8.xor_assoc,UInt8.xor_self,UInt8.xor_zero]
end Go.Proofs.Cc
namespace Go.Proofs.YtjcppbhgjchjaaaGreatDoor
open Go.RowKit Go.Proofs.Fd Go.Proofs.Hs Go.Proofs.Cc
attribute [local go_sem] zc7 zj3 zcf zc8 zbB
def QAt (w:Wo) (g:Nat) (l:List UInt32):Prop:=∀j (hj:j < l.length),w.cell? ⟨g,j,none⟩=some (.int .u32 (tv l[j]))/\w.frozen? ⟨g,j,none⟩=false
theorem QAt.later {W w1:Wo} {b:Nat} {l:List UInt32} (h:QAt W b l) (hb:Bw W w1):QAt w1 b l:=fun j hj=>by
 obtain⟨h0,h1⟩:=h j hj;exact⟨cell_later hb h0,(zae hb (World.block_lt_of_cell? _ _ h0)).trans h1⟩
theorem QAt.set {w:Wo} {b:Nat} {l:List UInt32} (h:QAt w b l) (k:Nat) (x:UInt32):QAt (w.setCell ⟨b,k,none⟩ (.int .u32 (tv x))) b (l.set k x):=fun j hj=>by
 obtain⟨h0,h1⟩:=h j (by simpa using hj);refine⟨?_,by simp[go_sem,h1]⟩;by_cases e:k=j
 ·subst e;simp[go_sem,h0]
 ·have hne:(⟨b,k,none⟩:Addr)≠⟨b,j,none⟩:=fun q=>e (by injection q)
  rw[World.cell?_setCell_other _ _ _ _ hne,h0];simp[e]
theorem QAt.at {w:Wo} {g:Nat} {l:List UInt32} (h:QAt w g l) (a:Nat) (ha:a < l.length):w.cell? ⟨g,a,none⟩=some (.int .u32 (tv (l.getD a 0)))/\w.frozen? ⟨g,a,none⟩=false:=by
 rw[List.getD_eq_getElem?_getD,List.getElem?_eq_getElem ha];exact h a ha
theorem below_drewN {B:Nat} {a w:Wo} (h:Below B a w) (m:Nat):Below B a (w.drewN m):=by
 induction m with
 | zero=>exact h
 | succ m ih=>exact ih.drew
theorem QAt.other {w:Wo} {b:Nat} {l:List UInt32} (h:QAt w b l) {a:Addr} (hne:a.block≠b) (v:Value):QAt (w.setCell a v) b l:=fun j hj =>
 ⟨zaa (h j hj).1 hne,(zag hne).trans (h j hj).2⟩
end Go.Proofs.YtjcppbhgjchjaaaGreatDoor
namespace Go.Proofs.Cc
def qa (a b c d:UInt32):UInt32 :=
 let a1:=a+b
 let d1:=lft (d ^^^ a1) 16
 let c1:=c+d1
 let b1:=lft (b ^^^ c1) 12
 a1+b1
def qd (a b c d:UInt32):UInt32 :=
 let a1:=a+b
 let d1:=lft (d ^^^ a1) 16
 let c1:=c+d1
 let b1:=lft (b ^^^ c1) 12
 lft (d1 ^^^ (a1+b1)) 8
def qc (a b c d:UInt32):UInt32 :=
 let a1:=a+b
 let d1:=lft (d ^^^ a1) 16
 let c1:=c+d1
 let b1:=lft (b ^^^ c1) 12
 c1+lft (d1 ^^^ (a1+b1)) 8
def qb (a b c d:UInt32):UInt32 :=
 let a1:=a+b
 let d1:=lft (d ^^^ a1) 16
 let c1:=c+d1
 let b1:=lft (b ^^^ c1) 12
 lft (b1 ^^^ (c1+lft (d1 ^^^ (a1+b1)) 8)) 7
theorem zsg (l:List UInt32) (i:Nat) (x:UInt32) (h:i < l.length):(l.set i x).getD i 0=x:=by
 rw[List.getD_eq_getElem?_getD,List.getElem?_set_self h];rfl
theorem zsf (l:List UInt32) (i j:Nat) (x:UInt32) (h:i≠j):(l.set i x).getD j 0=l.getD j 0:=by
 rw[List.getD_eq_getElem?_getD,List.getElem?_set_ne h,List.getD_eq_getElem?_getD]
theorem zwS (n m:Nat) (l:List UInt32) (a b c d:Nat) (ha:a < l.length) (hc:c < l.length) (hd:d < l.length) (ab:a≠b) (ac:a≠c) (ad:a≠d) (bc:b≠c) (bd:b≠d) (cd:c≠d) :
  hq n m l a b c d=(((l.set a (l.getD a 0+l.getD b 0)).set d (lft (l.getD d 0 ^^^ (l.getD a 0+l.getD b 0)) n)).set c (l.getD c 0+lft (l.getD d 0 ^^^ (l.getD a 0+l.getD b 0)) n)).set b (lft (l.getD b 0 ^^^ (l.getD c 0+lft (l.getD d 0 ^^^ (l.getD a 0+l.getD b 0)) n)) m):=by
 unfold hq;simp only;rw[zsf l a d _ ad,zsg l a _ ha];have e1:∀x y,((l.set a x).set d y).getD c 0=l.getD c 0:=fun x y=>by rw[zsf _ d c _ cd.symm,zsf _ a c _ ac]
 have e2:∀x y,((l.set a x).set d y).getD d 0=y:=fun x y=>zsg _ _ _ (by simpa using hd)
 rw[e1,e2];have e3:∀x y z,(((l.set a x).set d y).set c z).getD b 0=l.getD b 0:=fun x y z=>by rw[zsf _ c b _ bc.symm,zsf _ d b _ bd.symm,zsf _ a b _ ab]
 have e4:∀x y z,(((l.set a x).set d y).set c z).getD c 0=z:=fun x y z=>zsg _ _ _ (by simpa using hc)
 rw[e3,e4]
theorem set4 (l:List UInt32) (a b c d:Nat) (x y z t x' y' z' t':UInt32) (ab:a≠b) (ac:a≠c) (ad:a≠d) (bc:b≠c) (bd:b≠d) (cd:c≠d) :
  (((((((l.set a x).set d t).set c z).set b y).set a x').set d t').set c z').set b y'=(((l.set a x').set b y').set c z').set d t':=by
 apply List.ext_getElem?;intro i;simp only[List.getElem?_set,List.length_set];by_cases ha:a=i
 ·subst ha;simp[ab.symm,ac.symm,ad.symm]
 ·by_cases hb:b=i
  ·subst hb;simp[bc.symm,bd.symm]
  ·by_cases hc:c=i
   ·subst hc;simp[hb,cd.symm]
   ·by_cases hd:d=i
    ·subst hd;simp[hb,hc]
    ·simp[ha,hb,hc,hd]
theorem get4 (l:List UInt32) (a b c d:Nat) (x y z t:UInt32) (ha:a < l.length) (hb:b < l.length) (hc:c < l.length) (hd:d < l.length) (ab:a≠b) (ac:a≠c) (ad:a≠d) (bc:b≠c) (bd:b≠d) (cd:c≠d) :
  ((((l.set a x).set d t).set c z).set b y).getD a 0=x/\((((l.set a x).set d t).set c z).set b y).getD b 0=y/\((((l.set a x).set d t).set c z).set b y).getD c 0=z/\((((l.set a x).set d t).set c z).set b y).getD d 0=t:=by
 refine⟨?_,?_,?_,?_⟩
 ·rw[zsf _ b a _ ab.symm,zsf _ c a _ ac.symm,zsf _ d a _ ad.symm,zsg _ _ _ ha]
 ·exact zsg _ _ _ (by simpa using hb)
 ·rw[zsf _ b c _ bc,zsg _ _ _ (by simpa using hc)]
 ·rw[zsf _ b d _ bd,zsf _ c d _ cd,zsg _ _ _ (by simpa using hd)]
theorem zxj (l:List UInt32) (a b c d:Nat) (ha:a < l.length) (hb:b < l.length) (hc:c < l.length) (hd:d < l.length) (ab:a≠b) (ac:a≠c) (ad:a≠d) (bc:b≠c) (bd:b≠d) (cd:c≠d) :
  qr l a b c d=(((l.set a (qa (l.getD a 0) (l.getD b 0) (l.getD c 0) (l.getD d 0))).set b (qb (l.getD a 0) (l.getD b 0) (l.getD c 0) (l.getD d 0))).set c (qc (l.getD a 0) (l.getD b 0) (l.getD c 0) (l.getD d 0))).set d (qd (l.getD a 0) (l.getD b 0) (l.getD c 0) (l.getD d 0)):=by
 unfold qr;rw[zwS 16 12 l a b c d ha hc hd ab ac ad bc bd cd];generalize hx:l.getD a 0+l.getD b 0=x;generalize ht:lft (l.getD d 0 ^^^ x) 16=t;generalize hz:l.getD c 0+t=z;generalize hy:lft (l.getD b 0 ^^^ z) 12=y;rw[zwS 8 7 _ a b c d (by simpa using ha) (by simpa using hc) (by simpa using hd) ab ac ad bc bd cd];obtain⟨g1,g2,g3,g4⟩:=get4 l a b c d x y z t ha hb hc hd ab ac ad bc bd cd;rw[g1,g2,g3,g4,set4 _ _ _ _ _ _ _ _ _ _ _ _ _ ab ac ad bc bd cd];unfold qa qb qc qd;simp only[hx,ht,hz,hy]
theorem zvt (a b c d:Nat) (ha:a < 256) (hb:b < 256) (hc:c < 256):a ||| b*256 ||| c*65536 ||| d*16777216=a+b*256+c*65536+d*16777216:=by
 have e1:a ||| b*256=a+b*256:=by
  have:=Nat.shiftLeft_add_eq_or_of_lt (show a < 2 ^ 8 by omega) b;rw[Nat.shiftLeft_eq] at this;rw[Nat.or_comm,<-this];omega
 have e2:(a+b*256) ||| c*65536=a+b*256+c*65536:=by
  have:=Nat.shiftLeft_add_eq_or_of_lt (show a+b*256 < 2 ^ 16 by omega) c;rw[Nat.shiftLeft_eq] at this;rw[Nat.or_comm,<-this];omega
 have e3:(a+b*256+c*65536) ||| d*16777216=a+b*256+c*65536+d*16777216:=by
  have:=Nat.shiftLeft_add_eq_or_of_lt (show a+b*256+c*65536 < 2 ^ 24 by omega) d;rw[Nat.shiftLeft_eq] at this;rw[Nat.or_comm,<-this];omega
 rw[e1,e2,e3]
def wbn (l:List UInt32) (i:Nat):List UInt8:=(List.range i).flatMap fun j=>le4 ((rounds l 10).getD j 0+l.getD j 0)
theorem ztW (l:List UInt32) (i:Nat):wbn l (i+1)=wbn l i++le4 ((rounds l 10).getD i 0+l.getD i 0):=by simp[wbn,List.range_succ]
theorem zwl (k n:List UInt8) (c:UInt32):wbn (zr6 k n c) 16=blk k n c:=rfl
theorem ztG (l:List UInt32) (i:Nat):(wbn l i).length=4*i:=by
 induction i with
 | zero=>rfl
 | succ i ih=>rw[ztW,List.length_append,ih];simp[le4];omega
theorem zvu (l:List UInt32):zr5 (zr4 l 4) 4=qr (qr (qr (qr (qr (qr (qr (qr l 0 4 8 12) 1 5 9 13) 2 6 10 14) 3 7 11 15) 0 5 10 15) 1 6 11 12) 2 7 8 13) 3 4 9 14:=rfl
end Go.Proofs.Cc
namespace Go.Proofs.YtjcppbhgjchjaaaGreatDoor
open Go.RowKit Go.Proofs.Fd Go.Proofs.Hs Go.Proofs.Cc
theorem zvv (x:UInt32) (k:Nat) (h1:1<=k) (h2:k<=31) (w:Wo) :
  Cl 380 #[.int .u32 (tv x),.int .i64 (k:Int)] w fun e w'=>e = .returned (.int .u32 (tv (lft x k)))/\w'=w:=by
 have HO:Hid (_=_):=zoM x (32 - k) (by omega) (by omega);have HA:bits .and .u64 (k:Int) 31=(k:Int):=by
  have:=bits_mask .u64 64 (by decide) zxv 5 (by decide) (k:Int) (by omega) (by omega);rw[show (2:Int) ^ 5 - 1=31 by decide] at this;rw[this];omega
 have HW:IntKind.u64.wrap (k:Int)=(k:Int):=by rw[IntKind.wrap_u64];omega
 obtain⟨r,hr⟩:∃r,32 - k=r:=⟨_,rfl⟩;have hk:32 - r=k:=by omega
 have e:lft x k=trn x r:=by unfold lft;rw[hr]
 rw[e];rw[hr,hk] at HO;have h4:(k:Int)<=32:=by omega
 have h5:IntKind.u64.wrap (32 - (k:Int))=(r:Int):=by rw[IntKind.wrap_u64];omega
 have h6:(r:Int)<=32:=by omega
 clear hr h1 h2 hk e;go_enter Tryz.func380, Tryz.ntmps380;go_wp2;go_ret;exact⟨by rw[<-HO.out];rfl,rfl⟩
attribute [local go_sem] zc7 zj3 zcf zc8 zbB
theorem or_word (c0 c1 c2 c3:UInt8):bits .or .u32 (bits .or .u32 (bits .or .u32 ((c0.toNat:Int) % 4294967296) ((c1.toNat:Int) % 4294967296*256 % 4294967296)) ((c2.toNat:Int) % 4294967296*65536 % 4294967296)) ((c3.toNat:Int) % 4294967296*16777216 % 4294967296)=tv (UInt32.ofNat (c0.toNat+c1.toNat*256+c2.toNat*65536+c3.toNat*16777216)):=by
 have q0:=c0.toNat_lt;have q1:=c1.toNat_lt;have q2:=c2.toNat_lt;have q3:=c3.toNat_lt;rw[show (c0.toNat:Int) % 4294967296=(c0.toNat:Int) by omega,show (c1.toNat:Int) % 4294967296*256 % 4294967296=((c1.toNat*256:Nat):Int) by omega,show (c2.toNat:Int) % 4294967296*65536 % 4294967296=((c2.toNat*65536:Nat):Int) by omega,show (c3.toNat:Int) % 4294967296*16777216 % 4294967296=((c3.toNat*16777216:Nat):Int) by omega];have e1:=(bits_nat .u32 32 (by decide) zp9 c0.toNat (c1.toNat*256) (by omega) (by omega)).2;have l1:c0.toNat ||| c1.toNat*256 < 2 ^ 32:=Nat.or_lt_two_pow (by omega) (by omega);have e2:=(bits_nat .u32 32 (by decide) zp9 (c0.toNat ||| c1.toNat*256) (c2.toNat*65536) l1 (by omega)).2;have l2:c0.toNat ||| c1.toNat*256 ||| c2.toNat*65536 < 2 ^ 32:=Nat.or_lt_two_pow l1 (by omega);have e3:=(bits_nat .u32 32 (by decide) zp9 (c0.toNat ||| c1.toNat*256 ||| c2.toNat*65536) (c3.toNat*16777216) l2 (by omega)).2;rw[e1,e2,e3,zvt _ _ _ _ (by omega) (by omega) (by omega),zj2,Nat.mod_eq_of_lt (by omega)]
theorem ztl (s:Ba) (h4:4<=s.size) (w:Wo) :
  Cl 350 #[.string s] w fun e w'=>e = .returned (.int .u32 (tv (rdw s.data.toList 0)))/\∃m,w'=w.drewN m:=by
 have l0:0 < s.size:=by omega
 have l1:1 < s.size:=by omega
 have l2:2 < s.size:=by omega
 have l3:3 < s.size:=by omega
 have HX:Hid (rdw s.data.toList 0=UInt32.ofNat (s[0].toNat+s[1].toNat*256+s[2].toNat*65536+s[3].toNat*16777216)):=by
  show _=_;unfold rdw;simp only[List.getD_eq_getElem?_getD,Nat.mul_zero,Nat.zero_add];rw[List.getElem?_eq_getElem (by simpa using l0),List.getElem?_eq_getElem (by simpa using l1),List.getElem?_eq_getElem (by simpa using l2),List.getElem?_eq_getElem (by simpa using l3)];rfl
 rw[HX.out];obtain⟨c0,hc0⟩:∃c,s[0]=c:=⟨_,rfl⟩;obtain⟨c1,hc1⟩:∃c,s[1]=c:=⟨_,rfl⟩;obtain⟨c2,hc2⟩:∃c,s[2]=c:=⟨_,rfl⟩;obtain⟨c3,hc3⟩:∃c,s[3]=c:=⟨_,rfl⟩;rw[hc0,hc1,hc2,hc3];have z0:(0:Int) < (s.size:Int):=by omega
 have z1:(1:Int) < (s.size:Int):=by omega
 have z2:(2:Int) < (s.size:Int):=by omega
 have z3:(3:Int) < (s.size:Int):=by omega
 have OW:Hid (_=_):=or_word c0 c1 c2 c3;clear HX;go_enter Tryz.func350, Tryz.ntmps350;go_wp2;go_quiet (fail);go_wp2;go_ret;exact⟨by rw[<-OW.out];rfl,_,rfl⟩
theorem ztH (g:Nat) (L:List UInt32) (i j k l:Nat) (hL:Hid (L.length=16)) (hr:Hid (i < 16/\j < 16/\k < 16/\l < 16)) (hd:Hid (i≠j/\i≠k/\i≠l/\j≠k/\j≠l/\k≠l)) (w:Wo) (hw:Hid (QAt w g L)) :
  Cl 382 #[.pointer (some ⟨g,0,none⟩),.int .i64 (i:Int),.int .i64 (j:Int),.int .i64 (k:Int),.int .i64 (l:Int)] w fun e w'=>e = .returned (.tuple #[])/\QAt w' g (qr L i j k l)/\Below g w w'/\∀b l',b≠g->QAt w b l'->QAt w' b l':=by
 obtain⟨ri,rj,rk,rl⟩:=hr.out;obtain⟨ij,ik,il,jk,jl,kl⟩:=hd.out;have zi:(i:Int) < 16:=by omega
 have zj:(j:Int) < 16:=by omega
 have zk:(k:Int) < 16:=by omega
 have zl:(l:Int) < 16:=by omega
 obtain⟨ci,fi⟩:=hw.out.at i (by rw[hL.out];exact ri);obtain⟨cj,fj⟩:=hw.out.at j (by rw[hL.out];exact rj);obtain⟨ck,fk⟩:=hw.out.at k (by rw[hL.out];exact rk);obtain⟨cl,fl⟩:=hw.out.at l (by rw[hL.out];exact rl);have QE:Hid (_=_):=zxj L i j k l (by rw[hL.out];exact ri) (by rw[hL.out];exact rj) (by rw[hL.out];exact rk) (by rw[hL.out];exact rl) ij ik il jk jl kl;obtain⟨a,ha⟩:∃a,L.getD i 0=a:=⟨_,rfl⟩;obtain⟨b,hb⟩:∃a,L.getD j 0=a:=⟨_,rfl⟩;obtain⟨c,hc⟩:∃a,L.getD k 0=a:=⟨_,rfl⟩;obtain⟨d,hd⟩:∃a,L.getD l 0=a:=⟨_,rfl⟩;rw[ha,hb,hc,hd] at QE;rw[ha] at ci;rw[hb] at cj;rw[hc] at ck;rw[hd] at cl;clear ha hb hc hd;rw[QE.out];have FIN:Hid (∀m A B C D,QAt (((((w.drewN m).setCell ⟨g,i,none⟩ (.int .u32 (tv A))).setCell ⟨g,j,none⟩ (.int .u32 (tv B))).setCell ⟨g,k,none⟩ (.int .u32 (tv C))).setCell ⟨g,l,none⟩ (.int .u32 (tv D))) g ((((L.set i A).set j B).set k C).set l D)/\Below g w (((((w.drewN m).setCell ⟨g,i,none⟩ (.int .u32 (tv A))).setCell ⟨g,j,none⟩ (.int .u32 (tv B))).setCell ⟨g,k,none⟩ (.int .u32 (tv C))).setCell ⟨g,l,none⟩ (.int .u32 (tv D)))/\∀b l',b≠g->QAt w b l'->QAt (((((w.drewN m).setCell ⟨g,i,none⟩ (.int .u32 (tv A))).setCell ⟨g,j,none⟩ (.int .u32 (tv B))).setCell ⟨g,k,none⟩ (.int .u32 (tv C))).setCell ⟨g,l,none⟩ (.int .u32 (tv D))) b l'):=fun m A B C D =>
  ⟨((((QAt.set (w:=w.drewN m) hw.out) i A).set j B).set k C).set l D,((((below_drewN (bQ _ _) m).setCell (p:=⟨g,i,none⟩) (nL _) _).setCell (p:=⟨g,j,none⟩) (nL _) _).setCell (p:=⟨g,k,none⟩) (nL _) _).setCell (p:=⟨g,l,none⟩) (nL _) _,
   fun b l' hne h=>(((QAt.other (w:=w.drewN m) h (a:=⟨g,i,none⟩) (Ne.symm hne) _).other (a:=⟨g,j,none⟩) (Ne.symm hne) _).other (a:=⟨g,k,none⟩) (Ne.symm hne) _).other (a:=⟨g,l,none⟩) (Ne.symm hne) _⟩
 have RT:Hid (∀(x:UInt32) (n:Nat) (_:1<=n) (_:n<=31) (w:Wo),Cl 380 #[.int .u32 (tv x),.int .i64 (n:Int)] w fun e w'=>e = .returned (.int .u32 (tv (lft x n)))/\w'=w):=zvv;clear QE hw;have ji:=ij.symm;have ki:=ik.symm;have li:=il.symm;have kj:=jk.symm;have lj:=jl.symm;have lk:=kl.symm;go_enter Tryz.func382, Tryz.ntmps382;go_wp2;go_quiet (fail);go_wp2_with fail;refine cM (RT.out _ 16 (by decide) (by decide) _) ?_;rintro e w1 ⟨rfl,rfl⟩;go_wp2_with fail;refine cM (RT.out _ 12 (by decide) (by decide) _) ?_;rintro e w1 ⟨rfl,rfl⟩;go_wp2_with fail;refine cM (RT.out _ 8 (by decide) (by decide) _) ?_;rintro e w1 ⟨rfl,rfl⟩;go_wp2_with fail;refine cM (RT.out _ 7 (by decide) (by decide) _) ?_;rintro e w1 ⟨rfl,rfl⟩;go_wp2;go_region;exact bodyPost_end (results_none Tryz.results382 _ _ _) rfl ⟨rfl,FIN.out _ _ _ _ _⟩
def wcl (l:List UInt32):List Value:=l.map fun x => .int .u32 (tv x)
theorem zsX (l:List UInt32):(wcl l).length=l.length:=by simp[wcl]
theorem ztI (l:List UInt32):∀v∈wcl l,v.oneCell'=true:=fun v hv=>by
 obtain⟨x,_,rfl⟩:=List.mem_map.1 hv;rfl
theorem QAt.range {w:Wo} {b:Nat} {l:List UInt32} (h:QAt w b l):w.rangeAt b 0 (wcl l):=fun j v hv=>by
 unfold wcl at hv;rw[List.getElem?_map] at hv;by_cases hj:j < l.length
 ·rw[List.getElem?_eq_getElem hj] at hv
  rw[Nat.zero_add,(h j hj).1];exact hv
 ·rw[List.getElem?_eq_none (by omega)] at hv;cases hv
theorem QAt.new (w:Wo) (l:List UInt32) (t:TypeId):QAt (w.alloc (.cells (wcl l).toArray t)) w.heap.size l:=fun j hj=>by
 refine⟨?_,by simp[go_sem]⟩;rw[World.cell?_alloc_new];simp[wcl,hj]
theorem QAt.zeros (w:Wo) (t:TypeId):QAt (w.alloc (.cells #[.int .u32 0,.int .u32 0,.int .u32 0,.int .u32 0,.int .u32 0,.int .u32 0,.int .u32 0,.int .u32 0,.int .u32 0,.int .u32 0,.int .u32 0,.int .u32 0,.int .u32 0,.int .u32 0,.int .u32 0,.int .u32 0] t)) w.heap.size (List.replicate 16 0):=QAt.new w (List.replicate 16 0) t
theorem QAt.there {w:Wo} {b:Nat} {l:List UInt32} (h:QAt w b l) (n:Nat) (hn:l.length=n):w.there b 0 n:=fun j hj=>by
 obtain⟨h0,h1⟩:=h j (by omega);exact⟨by rw[Nat.zero_add,h0];rfl,by rw[Nat.zero_add];exact h1⟩
theorem zsH:(Tryz.prog.info? 370).map (·.size)=some 16:=by kernel_rfl
theorem zsh (B g g2:Nat) (w0:Wo) (L Z:List UInt32) (i j k l:Nat) (w:Wo) (I:Hid (L.length=16/\QAt w g L/\QAt w g2 Z/\Below B w0 w)) (hr:i < 16/\j < 16/\k < 16/\l < 16) (hd:i≠j/\i≠k/\i≠l/\j≠k/\j≠l/\k≠l) (hB:Hid (B<=g/\g2≠g)) :
  Cl 382 #[.pointer (some ⟨g,0,none⟩),.int .i64 (i:Int),.int .i64 (j:Int),.int .i64 (k:Int),.int .i64 (l:Int)] w fun e w'=>e = .returned (.tuple #[])/\Hid ((qr L i j k l).length=16/\QAt w' g (qr L i j k l)/\QAt w' g2 Z/\Below B w0 w'):=by
 refine cM (ztH g L i j k l I.out.1 hr hd w I.out.2.1) ?_;rintro e w' ⟨rfl,h1,h2,h3⟩;exact⟨rfl,by rw[zuv];exact I.out.1,h1,h3 _ _ hB.out.2 I.out.2.2.1,I.out.2.2.2.trans (h2.mono hB.out.1)⟩
theorem zuy (tmps:Array Value) (w:Wo) (b:Nat) (x:Array Value) (h0:tmps.getD 2 undef = .pointer (some ⟨b,0,none⟩))
  (l1:(loadVar 370 ⟨b,0,none⟩).run Tryz.prog w = .ok (.agg x) w) :
  (results Tryz.f374 tmps).run Tryz.prog w = .ok (.agg x) w:=by
 unfold results;rw[Tryz.results374];have h0':tmps[2]?.getD undef = .pointer (some ⟨b,0,none⟩):=by simpa using h0
 simp[h0',l1,asAddr]
set_option maxRecDepth 10000 in
theorem zt9 (L:List UInt32) (hL:Hid (L.length=16)) (w:Wo) :
  Cl 374 #[.agg (wcl L).toArray] w fun e w'=>e = .returned (.agg (wcl (Cc.rounds L 10)).toArray)/\Below w.heap.size w w':=by
 obtain⟨M,hM⟩:∃M,Cc.rounds L 10=M:=⟨_,rfl⟩;obtain⟨cs,hcs⟩:∃cs,wcl M=cs:=⟨_,rfl⟩;rw[hM,hcs];have HM:Hid (Cc.rounds L 10=M/\wcl M=cs):=⟨hM,hcs⟩;clear hM hcs;go_enter Tryz.func374, Tryz.ntmps374;go_wp2;obtain⟨A,hA⟩:∃A,w.alloc (.cells (wcl L).toArray 370)=A:=⟨_,rfl⟩;rw[hA];obtain⟨C,hC⟩:∃C,A.alloc (.cells #[.int .u32 0,.int .u32 0,.int .u32 0,.int .u32 0,.int .u32 0,.int .u32 0,.int .u32 0,.int .u32 0,.int .u32 0,.int .u32 0,.int .u32 0,.int .u32 0,.int .u32 0,.int .u32 0,.int .u32 0,.int .u32 0] 370)=C:=⟨_,rfl⟩;rw[hC];have sA:A.heap.size=w.heap.size+1:=by rw[<-hA];simp
 obtain⟨g,hg⟩:∃g,w.heap.size=g:=⟨_,rfl⟩;obtain⟨g2,hg2⟩:∃g2,g+1=g2:=⟨_,rfl⟩;have IC:Hid (L.length=16/\QAt C g L/\QAt C g2 (List.replicate 16 0)/\Below g w C):=by
  have q1:=QAt.new w L 370;rw[hA] at q1;have q2:=QAt.zeros A 370;rw[hC,sA,hg,hg2] at q2;refine⟨hL.out,?_,q2,?_⟩
  ·rw[<-hg,<-hC];exact q1.later ((bQ _ _).alloc (nL _) _)
  ·rw[<-hC,<-hA,<-hg];exact ((bQ _ _).alloc (nL _) _).alloc (by simp) _
 have HG:Hid (g<=g/\g2≠g):=by show _/\_;omega
 have HG2:Hid (g<=g2):=by show _<=_;omega
 rw[hg,hg2];have HW:Hid (w.heap.size=g):=hg;clear hA hC sA hg hg2;go_loopw [3] (fun i wr=>∃q:Nat,q<=10/\i = .int .i64 (q:Int)/\Hid ((Cc.rounds L q).length=16/\QAt wr g (Cc.rounds L q)/\QAt wr g2 (List.replicate 16 0)/\Below g w wr)) (fun i _=>10 - (intOf i).toNat)
 case atStart=>exact⟨0,by omega,rfl,IC.out⟩
 case round =>
  obtain⟨q,hq,rfl,I⟩:=hrel;clear IC;by_cases hq10:q=10
  ·subst hq10
   have J:=I.out;rw[HM.out.1] at J;have RG:Hid (wr.rangeAt g 0 cs):=by show wr.rangeAt g 0 cs;rw[<-HM.out.2];exact J.2.1.range
   have TH:Hid (wr.there g2 0 16):=J.2.2.1.there 16 rfl;have HL:Hid (cs.length=16/\cs.toArray.all (·.oneCell')=true):=by rw[<-HM.out.2];exact⟨by rw[zsX];exact J.1,all_oneCell_toArray (ztI _)⟩
   obtain⟨V,hV⟩:∃V,wr.setCells g2 0 cs.toArray.toList=V:=⟨_,rfl⟩;have RV:Hid (V.rangeAt g2 0 cs/\Below g w V):=by
    rw[<-hV];exact⟨World.rangeAt_setCells_same wr g2 0 _ (by show wr.there g2 0 cs.length;rw[HL.out.1];exact TH.out),below_setCells HG2.out _ _ _ J.2.2.2⟩
   have HV:Hid (_=_):=hV;clear hV I J HM;go_wp2_with (first
    | (refine wpList_load_mid rfl 370 (.tmp 1) rfl g 0 rfl cs _ RG.out Tryz.underlying370 rfl (by rw[HL.out.1];exact zsH) ?_)
    | (refine wpList_store_mid rfl 370 (.tmp 2) (.tmp 14) rfl g2 0 cs.toArray rfl rfl (by rw[List.size_toArray,HL.out.1];exact TH.out) (by rw[List.size_toArray,HL.out.1];exact zsH) HL.out.2 ?_;rw[HV.out]))
   refine bodyPost_ret (v := .agg cs.toArray) ?_ rfl ⟨rfl,by rw[HW.out];exact RV.out.2⟩;exact zuy _ V g2 _ (by kernel_rfl) (run_loadVar_mid V g2 0 370 cs _ RV.out.1 Tryz.underlying370 rfl (by rw[HL.out.1];exact zsH))
  ·have q10:(q:Int) < 10:=by omega
   have RS:Hid (Cc.rounds L (q+1)=zr5 (zr4 (Cc.rounds L q) 4) 4):=rfl;rw[zvu] at RS;generalize Cc.rounds L q=N at *;go_wp2_with fail;refine cM (zsh g g g2 w _ _ 0 4 8 12 _ I (by decide) (by decide) HG) ?_;rintro e w1 ⟨rfl,I1⟩;clear I;go_wp2_with fail;refine cM (zsh g g g2 w _ _ 1 5 9 13 _ I1 (by decide) (by decide) HG) ?_;rintro e w2 ⟨rfl,I2⟩;clear I1;go_wp2_with fail;refine cM (zsh g g g2 w _ _ 2 6 10 14 _ I2 (by decide) (by decide) HG) ?_;rintro e w3 ⟨rfl,I3⟩;clear I2;go_wp2_with fail;refine cM (zsh g g g2 w _ _ 3 7 11 15 _ I3 (by decide) (by decide) HG) ?_;rintro e w4 ⟨rfl,I4⟩;clear I3;go_wp2_with fail;refine cM (zsh g g g2 w _ _ 0 5 10 15 _ I4 (by decide) (by decide) HG) ?_;rintro e w5 ⟨rfl,I5⟩;clear I4;go_wp2_with fail;refine cM (zsh g g g2 w _ _ 1 6 11 12 _ I5 (by decide) (by decide) HG) ?_;rintro e w6 ⟨rfl,I6⟩;clear I5;go_wp2_with fail;refine cM (zsh g g g2 w _ _ 2 7 8 13 _ I6 (by decide) (by decide) HG) ?_;rintro e w7 ⟨rfl,I7⟩;clear I6;go_wp2_with fail;refine cM (zsh g g g2 w _ _ 3 4 9 14 _ I7 (by decide) (by decide) HG) ?_;rintro e w8 ⟨rfl,I8⟩;clear I7;have NX:Hid ((Cc.rounds L (q+1)).length=16/\QAt w8 g (Cc.rounds L (q+1))/\QAt w8 g2 (List.replicate 16 0)/\Below g w w8):=by rw[RS.out];exact I8
   clear I8 RS;go_wp2;go_roundw
   case rel=>exact⟨q+1,by omega,by go_num,NX.out⟩
   case measure=>simp[intOf];omega
theorem zwm (M:List UInt32) (hM:M.length=16) (k:Nat) (hk:k < 16) (w:Wo) :
  (Instr.index 370 (.agg (wcl M).toArray) (.int .i64 (k:Int))).run Tryz.prog w = .ok (.int .u32 (tv (M.getD k 0))) w:=by
 have hi:∃i0,Tryz.prog.info? 192 = some i0/\i0.size=1:=by
  have:(Tryz.prog.info? 192).map (·.size)=some 1:=by kernel_rfl
  cases h:Tryz.prog.info? 192 with
  | none=>simp[h] at this
  | some i=>simp[h] at this;exact⟨i,rfl,this⟩
 obtain⟨i0,hi,hs⟩:=hi;have hg:(wcl M)[k]?=some (.int .u32 (tv (M.getD k 0))):=by
  unfold wcl;rw[List.getElem?_map,List.getElem?_eq_getElem (by omega),List.getD_eq_getElem?_getD,List.getElem?_eq_getElem (by omega)];rfl
 simp[Instr.index,run_underlying Tryz.underlying370, run_underlying Tryz.underlying192, asIntOf,hk,sizeOf,typeInfo,hi,hs,part,isAgg,hg]
theorem zxk (w:Wo) (t:TypeId):BytesAt (w.alloc (.cells (Z64).toArray t)) w.heap.size (List.replicate 64 0):=fun j hj=>by
 have hj':j < 64:=by simpa using hj
 refine⟨?_,by simp[go_sem]⟩;rw[World.cell?_alloc_new,List.getElem_replicate,show ((Z64).toArray:Array Value)=Array.replicate 64 (.int .u8 0) from rfl,Array.getElem?_replicate,if_pos hj'];rfl
theorem BytesAt.brange {w:Wo} {b:Nat} {l:List UInt8} (h:BytesAt w b l):w.rangeAt b 0 (zaw l):=fun j v hv=>by
 unfold zaw at hv;rw[List.getElem?_map] at hv;by_cases hj:j < l.length
 ·rw[List.getElem?_eq_getElem hj] at hv
  rw[Nat.zero_add,(h j hj).1];exact hv
 ·rw[List.getElem?_eq_none (by omega)] at hv;cases hv
theorem BytesAt.bthere {w:Wo} {b:Nat} {l:List UInt8} (h:BytesAt w b l) (n:Nat) (hn:l.length=n):w.there b 0 n:=fun j hj=>by
 obtain⟨h0,h1⟩:=h j (by omega);exact⟨by rw[Nat.zero_add,h0];rfl,by rw[Nat.zero_add];exact h1⟩
theorem BytesAt.some {w:Wo} {b:Nat} {l:List UInt8} (h:BytesAt w b l) (j:Nat) (hj:j < l.length):∃v,w.cell? ⟨b,j,none⟩ = .some v/\w.frozen? ⟨b,j,none⟩=false:=⟨_,h j hj⟩
theorem zsO (l:List UInt8):(zaw l).length=l.length:=by simp[zaw]
theorem zs5 (l:List UInt8):∀v∈zaw l,v.oneCell'=true:=fun v hv=>by
 obtain⟨x,_,rfl⟩:=List.mem_map.1 hv;rfl
theorem zsY:(Tryz.prog.info? 117).map (·.size)=some 64:=by kernel_rfl
theorem zxl (l:List UInt8) (n p:Nat) (hl:l.length=p) (a b c d:UInt8):((((l++List.replicate (n+4) 0).set p a).set (p+1) b).set (p+2) c).set (p+3) d=l++[a,b,c,d]++List.replicate n 0:=by
 subst hl;simp[List.replicate_succ]
def zsq (L:List UInt32) (k:Nat):List UInt8:=wbn L k++List.replicate (64 - 4*k) 0
theorem zua (L:List UInt32) (k:Nat) (h:k<=16):(zsq L k).length=64:=by unfold zsq;rw[List.length_append,ztG,List.length_replicate];omega
theorem ztJ (L:List UInt32) (k:Nat) (h:k < 16) (x:UInt32) (hx:x=(Cc.rounds L 10).getD k 0+L.getD k 0):(((((zsq L k).set (4*k) (UInt8.ofNat x.toNat)).set (4*k+1) (UInt8.ofNat (x.toNat / 256))).set (4*k+2) (UInt8.ofNat (x.toNat / 65536))).set (4*k+3) (UInt8.ofNat (x.toNat / 16777216)))=zsq L (k+1):=by
 unfold zsq;rw[show 64 - 4*k=(64 - 4*(k+1))+4 by omega,zxl _ _ _ (ztG L k),ztW,<-hx];rfl
theorem zub (L:List UInt32):zsq L 16=wbn L 16:=by simp[zsq]
theorem zuz (x:UInt32) (n:Nat):tv x / (n:Int) % 256=((UInt8.ofNat (x.toNat / n)).toNat:Int):=by
 unfold tv;rw[UInt8.toNat_ofNat'];simp
theorem zvw (x:UInt32):tv x % 256=((UInt8.ofNat x.toNat).toNat:Int):=by
 unfold tv;rw[UInt8.toNat_ofNat'];simp
theorem zvx (x:UInt32):tv x / 16777216=((UInt8.ofNat (x.toNat / 16777216)).toNat:Int):=by
 have:=x.toNat_lt;unfold tv;rw[UInt8.toNat_ofNat'];omega
theorem zuA (tmps:Array Value) (w:Wo) (b:Nat) (x:Array Value) (h0:tmps.getD 2 undef = .pointer (some ⟨b,0,none⟩))
  (l1:(loadVar 117 ⟨b,0,none⟩).run Tryz.prog w = .ok (.agg x) w) :
  (results Tryz.f351 tmps).run Tryz.prog w = .ok (.agg x) w:=by
 unfold results;rw[Tryz.results351];have h0':tmps[2]?.getD undef = .pointer (some ⟨b,0,none⟩):=by simpa using h0
 simp[h0',l1,asAddr]
attribute [local go_sem] zc7 zj3 zcf zc8 zbB
set_option maxRecDepth 20000 in
theorem zuc (L:List UInt32) (hL:Hid (L.length=16)) (w:Wo) :
  Cl 351 #[.agg (wcl L).toArray] w fun e w'=>e = .returned (.agg (zaw (wbn L 16)).toArray)/\Below w.heap.size w w':=by
 obtain⟨M,hM⟩:∃M,Cc.rounds L 10=M:=⟨_,rfl⟩;obtain⟨cs,hcs⟩:∃cs,zaw (wbn L 16)=cs:=⟨_,rfl⟩;rw[hcs];have HC:Hid (zaw (wbn L 16)=cs/\Cc.rounds L 10=M):=⟨hcs,hM⟩;have LM:Hid (M.length=16):=by show M.length=16;rw[<-hM,zt8];exact hL.out
 obtain⟨A,hA⟩:∃A,w.alloc (.cells (wcl L).toArray 370)=A:=⟨_,rfl⟩;obtain⟨D,hD⟩:∃D,A.alloc (.cells (Z64).toArray 117)=D:=⟨_,rfl⟩;obtain⟨E,hE⟩:∃E,D.alloc (.cells (Z64).toArray 117)=E:=⟨_,rfl⟩;have sA:A.heap.size=w.heap.size+1:=by rw[<-hA];simp
 have sD:D.heap.size=w.heap.size+2:=by rw[<-hD];simp[sA]
 have sE:E.heap.size=w.heap.size+3:=by rw[<-hE];simp[sD]
 obtain⟨g,hg⟩:∃g,w.heap.size=g:=⟨_,rfl⟩;have IE:Hid (QAt E g L/\BytesAt E (g+1) (List.replicate 64 0)/\BytesAt E (g+2) (List.replicate 64 0)/\Below g w E):=by
  have q1:=QAt.new w L 370;rw[hA,hg] at q1;have q2:=zxk A 117;rw[hD,sA,hg] at q2;have q3:=zxk D 117;rw[hE,sD,hg] at q3;have bE:Below D.heap.size D E:=hE ▸ (bQ _ _).alloc (nL _) _;have bD:Below A.heap.size A D:=hD ▸ (bQ _ _).alloc (nL _) _;have bA:Below w.heap.size w A:=hA ▸ (bQ _ _).alloc (nL _) _;exact⟨(q1.later bD).later bE,q2.later bE,q3,hg ▸ chain bA (chain bD bE)⟩
 have RG:Hid (E.rangeAt g 0 (wcl L)/\(wcl L).length=16):=⟨IE.out.1.range,by rw[zsX];exact hL.out⟩;have MX:Hid (∀w,Cl 374 #[.agg (wcl L).toArray] w fun e w'=>e = .returned (.agg (wcl M).toArray)/\Below w.heap.size w w'):=fun w=>by
  rw[<-hM];exact zt9 L hL w
 clear hcs hM;go_enter Tryz.func351, Tryz.ntmps351;go_wp2_with (first
  | (refine wpList_load_mid rfl 370 (.tmp 1) rfl g 0 rfl (wcl L) _ RG.out.1 Tryz.underlying370 rfl (by rw[RG.out.2];exact zsH) ?_))
 refine cM (MX.out _) ?_;rintro e w1 ⟨rfl,hb1⟩;have I1:Hid (QAt w1 g L/\BytesAt w1 (g+1) (List.replicate 64 0)/\BytesAt w1 (g+2) (zsq L 0)/\Below g w w1):=by
  obtain⟨h1,h2,h3,h4⟩:=IE.out;refine⟨h1.later hb1,h2.later hb1,?_,h4.trans (hb1.mono (by omega))⟩;have:zsq L 0=List.replicate 64 0:=by simp[zsq,wbn]
  rw[this];exact h3.later hb1
 have HG:Hid (w.heap.size=g):=hg;obtain⟨g2,hg2⟩:∃g2,g+1=g2:=⟨_,rfl⟩;obtain⟨g3,hg3⟩:∃g3,g+2=g3:=⟨_,rfl⟩;have HN:Hid (g<=g2/\g<=g3/\g3≠g/\g3≠g2):=by show _/\_;omega
 rw[hg2,hg3] at I1;rw[hg2,hg3];clear hA hD hE sA sD sE hg hb1 IE RG MX hg2 hg3;go_wp2;go_loopw [8] (fun i wr=>∃q:Nat,q<=16/\i = .int .i64 (q:Int)/\Hid (QAt wr g L/\BytesAt wr g2 (List.replicate 64 0)/\BytesAt wr g3 (zsq L q)/\Below g w wr)) (fun i _=>16 - (intOf i).toNat)
 case atStart=>exact⟨0,by omega,rfl,I1.out⟩
 case round =>
  obtain⟨q,hq,rfl,I⟩:=hrel;clear I1;by_cases hq16:q=16
  ·subst hq16
   have J:=I.out;rw[zub] at J;have RG:Hid (wr.rangeAt g3 0 cs):=by show wr.rangeAt g3 0 cs;rw[<-HC.out.1];exact J.2.2.1.brange
   have TH:Hid (wr.there g2 0 64):=J.2.1.bthere 64 (by simp);have HL:Hid (cs.length=64/\cs.toArray.all (·.oneCell')=true):=by rw[<-HC.out.1];exact⟨by rw[zsO,ztG],all_oneCell_toArray (zs5 _)⟩
   obtain⟨V,hV⟩:∃V,wr.setCells g2 0 cs.toArray.toList=V:=⟨_,rfl⟩;have RV:Hid (V.rangeAt g2 0 cs/\Below g w V):=by
    rw[<-hV];exact⟨World.rangeAt_setCells_same wr g2 0 _ (by show wr.there g2 0 cs.length;rw[HL.out.1];exact TH.out),below_setCells HN.out.1 _ _ _ J.2.2.2⟩
   have HV:Hid (_=_):=hV;clear hV I J HC;go_wp2_with (first
    | (refine wpList_load_mid rfl 117 (.tmp 3) rfl g3 0 rfl cs _ RG.out Tryz.underlying117 rfl (by rw[HL.out.1];exact zsY) ?_)
    | (refine wpList_store_mid rfl 117 (.tmp 2) (.tmp 44) rfl g2 0 cs.toArray rfl rfl (by rw[List.size_toArray,HL.out.1];exact TH.out) (by rw[List.size_toArray,HL.out.1];exact zsY) HL.out.2 ?_;rw[HV.out]))
   refine bodyPost_ret (v := .agg cs.toArray) ?_ rfl ⟨rfl,by rw[HG.out];exact RV.out.2⟩;exact zuA _ V g2 _ (by kernel_rfl) (run_loadVar_mid V g2 0 117 cs _ RV.out.1 Tryz.underlying117 rfl (by rw[HL.out.1];exact zsY))
  ·have q16:q < 16:=by omega
   have z16:(q:Int) < 16:=by omega
   have ix:=zwm M LM.out q q16 wr;obtain⟨cq,-⟩:=I.out.1.at q (by rw[hL.out];exact q16);obtain⟨p0,h0⟩:∃p,4*q=p:=⟨_,rfl⟩;obtain⟨p1,h1⟩:∃p,4*q+1=p:=⟨_,rfl⟩;obtain⟨p2,h2⟩:∃p,4*q+2=p:=⟨_,rfl⟩;obtain⟨p3,h3⟩:∃p,4*q+3=p:=⟨_,rfl⟩;obtain⟨x,hx⟩:∃x,M.getD q 0+L.getD q 0=x:=⟨_,rfl⟩;have PS:Hid (_=_):=ztJ L q q16 x (by rw[HC.out.2];exact hx.symm);rw[h1,h2,h3,h0] at PS;have hm:=zc8 (M.getD q 0) (L.getD q 0);rw[hx] at hm;have hm':=zbB (M.getD q 0) (L.getD q 0);rw[hx] at hm';clear hx;generalize M.getD q 0=m0 at *;generalize L.getD q 0=l0 at *;have LP:Hid ((zsq L q).length=64):=zua L q hq;have y0:(0:Int)<=(p0:Int):=by omega
   have y1:(0:Int)<=(p1:Int):=by omega
   have y2:(0:Int)<=(p2:Int):=by omega
   have y3:(0:Int)<=(p3:Int):=by omega
   have z0:(p0:Int) < 64:=by omega
   have z1:(p1:Int) < 64:=by omega
   have z2:(p2:Int) < 64:=by omega
   have z3:(p3:Int) < 64:=by omega
   have n01:p0≠p1:=by omega
   have n02:p0≠p2:=by omega
   have n03:p0≠p3:=by omega
   have n12:p1≠p2:=by omega
   have n13:p1≠p3:=by omega
   have n23:p2≠p3:=by omega
   obtain⟨v0,b0,f0⟩:=I.out.2.2.1.some p0 (by rw[LP.out];omega);obtain⟨v1,b1,f1⟩:=I.out.2.2.1.some p1 (by rw[LP.out];omega);obtain⟨v2,b2,f2⟩:=I.out.2.2.1.some p2 (by rw[LP.out];omega);obtain⟨v3,b3,f3⟩:=I.out.2.2.1.some p3 (by rw[LP.out];omega);have a0:IntKind.i64.wrap (4*(q:Int))=(p0:Int):=by rw[IntKind.wrap_i64];omega
   have a1:IntKind.i64.wrap ((p0:Int)+1)=(p1:Int):=by rw[IntKind.wrap_i64];omega
   have a2:IntKind.i64.wrap ((p0:Int)+2)=(p2:Int):=by rw[IntKind.wrap_i64];omega
   have a3:IntKind.i64.wrap ((p0:Int)+3)=(p3:Int):=by rw[IntKind.wrap_i64];omega
   have e0:4*(q:Int)=(p0:Int):=by omega
   have e1:(p0:Int)+1=(p1:Int):=by omega
   have e2:(p0:Int)+2=(p2:Int):=by omega
   have e3:(p0:Int)+3=(p3:Int):=by omega
   have d0:IntKind.i64.wrap (p0:Int)=(p0:Int):=by rw[IntKind.wrap_i64];omega
   have d1:IntKind.i64.wrap (p1:Int)=(p1:Int):=by rw[IntKind.wrap_i64];omega
   have d2:IntKind.i64.wrap (p2:Int)=(p2:Int):=by rw[IntKind.wrap_i64];omega
   have d3:IntKind.i64.wrap (p3:Int)=(p3:Int):=by rw[IntKind.wrap_i64];omega
   have n10:=n01.symm;have n20:=n02.symm;have n30:=n03.symm;have n21:=n12.symm;have n31:=n13.symm;have n32:=n23.symm;have NX:Hid (QAt ((((wr.setCell ⟨g3,p0,none⟩ (.int .u8 (tv x % 256))).setCell ⟨g3,p1,none⟩ (.int .u8 (tv x / 256 % 256))).setCell ⟨g3,p2,none⟩ (.int .u8 (tv x / 65536 % 256))).setCell ⟨g3,p3,none⟩ (.int .u8 (tv x / 16777216))) g L
    /\ BytesAt ((((wr.setCell ⟨g3,p0,none⟩ (.int .u8 (tv x % 256))).setCell ⟨g3,p1,none⟩ (.int .u8 (tv x / 256 % 256))).setCell ⟨g3,p2,none⟩ (.int .u8 (tv x / 65536 % 256))).setCell ⟨g3,p3,none⟩ (.int .u8 (tv x / 16777216))) g2 (List.replicate 64 0)
    /\ BytesAt ((((wr.setCell ⟨g3,p0,none⟩ (.int .u8 (tv x % 256))).setCell ⟨g3,p1,none⟩ (.int .u8 (tv x / 256 % 256))).setCell ⟨g3,p2,none⟩ (.int .u8 (tv x / 65536 % 256))).setCell ⟨g3,p3,none⟩ (.int .u8 (tv x / 16777216))) g3 (zsq L (q+1))
    /\ Below g w ((((wr.setCell ⟨g3,p0,none⟩ (.int .u8 (tv x % 256))).setCell ⟨g3,p1,none⟩ (.int .u8 (tv x / 256 % 256))).setCell ⟨g3,p2,none⟩ (.int .u8 (tv x / 65536 % 256))).setCell ⟨g3,p3,none⟩ (.int .u8 (tv x / 16777216)))):=by
    obtain⟨h1,h2,h3,h4⟩:=I.out;obtain⟨-,m1,m2,m3⟩:=HN.out;refine⟨(((h1.other (a:=⟨g3,p0,none⟩) m2 _).other (a:=⟨g3,p1,none⟩) m2 _).other (a:=⟨g3,p2,none⟩) m2 _).other (a:=⟨g3,p3,none⟩) m2 _,
     (((h2.other (a:=⟨g3,p0,none⟩) m3 _).other (a:=⟨g3,p1,none⟩) m3 _).other (a:=⟨g3,p2,none⟩) m3 _).other (a:=⟨g3,p3,none⟩) m3 _,?_,
     (((h4.setCell (p:=⟨g3,p0,none⟩) m1 _).setCell (p:=⟨g3,p1,none⟩) m1 _).setCell (p:=⟨g3,p2,none⟩) m1 _).setCell (p:=⟨g3,p3,none⟩) m1 _⟩
    rw[<-PS.out];exact (((h3.set p0 _ _ (zvw x)).set p1 _ _ (zuz x 256)).set p2 _ _ (zuz x 65536)).set p3 _ _ (zvx x)
   clear PS LP h0 h1 h2 h3;go_wp2;go_roundw
   case rel=>exact⟨q+1,by omega,by go_num,NX.out⟩
   case measure=>simp[intOf];omega
theorem ztc (l:List UInt32) (n p:Nat) (hl:l.length=p) (x:UInt32):(l++List.replicate (n+1) 0).set p x=l++[x]++List.replicate n 0:=by
 subst hl;simp[List.replicate_succ]
def bg1 (k:List UInt8) (q:Nat):List UInt32:=[1634760805,857760878,2036477234,1797285236]++rd k q++List.replicate (12 - q) 0
def bg2 (k n:List UInt8) (c:UInt32) (q:Nat):List UInt32:=[1634760805,857760878,2036477234,1797285236]++rd k 8++[c]++rd n q++List.replicate (3 - q) 0
theorem zuB (k:List UInt8) (q:Nat) (h:q<=12):(bg1 k q).length=16:=by simp[bg1,zsx];omega
theorem zuC (k n:List UInt8) (c:UInt32) (q:Nat) (h:q<=3):(bg2 k n c q).length=16:=by simp[bg2,zsx];omega
theorem zvy (k:List UInt8) (q:Nat) (h:q < 12):(bg1 k q).set (4+q) (rdw k q)=bg1 k (q+1):=by
 unfold bg1;rw[show 12 - q=(12 - (q+1))+1 by omega,ztc _ _ _ (by simp[zsx];omega),zuw];simp
theorem zxm (k n:List UInt8) (c:UInt32):(bg1 k 8).set 12 c=bg2 k n c 0:=by
 unfold bg1;rw[show 12 - 8=3+1 by omega,ztc _ _ _ (by simp[zsx])];simp[bg2,rd]
theorem zvz (k n:List UInt8) (c:UInt32) (q:Nat) (h:q < 3):(bg2 k n c q).set (13+q) (rdw n q)=bg2 k n c (q+1):=by
 unfold bg2;rw[show 3 - q=(3 - (q+1))+1 by omega,ztc _ _ _ (by simp[zsx];omega),zuw n q];simp
theorem zwn (k n:List UInt8) (c:UInt32):bg2 k n c 3=zr6 k n c:=by simp[bg2,zr6]
theorem zuD (tmps:Array Value) (w:Wo) (b:Nat) (x:Array Value) (h0:tmps.getD 6 undef = .pointer (some ⟨b,0,none⟩))
  (l1:(loadVar 370 ⟨b,0,none⟩).run Tryz.prog w = .ok (.agg x) w) :
  (results Tryz.f315 tmps).run Tryz.prog w = .ok (.agg x) w:=by
 unfold results;rw[Tryz.results315];have h0':tmps[6]?.getD undef = .pointer (some ⟨b,0,none⟩):=by simpa using h0
 simp[h0',l1,asAddr]
theorem zuE (s:Ba) (k:Nat) (h:4*k+4<=s.size):rdw (s.extract (4*k) s.size).data.toList 0=rdw s.data.toList k:=by
 unfold rdw;simp only[List.getD_eq_getElem?_getD,ByteArray.data_extract,Array.toList_extract,List.extract_eq_take_drop,List.getElem?_take,List.getElem?_drop];have hl:s.data.size=s.size:=rfl;simp only[Nat.mul_zero,Nat.zero_add,Nat.add_zero];rw[if_pos (by omega),if_pos (by omega),if_pos (by omega),if_pos (by omega)]
theorem QAt.stored {w:Wo} {b:Nat} {l0 l:List UInt32} (h:QAt w b l0) (hl:l.length=l0.length):QAt (w.setCells b 0 (wcl l)) b l:=fun j hj=>by
 have h1:=World.rangeAt_setCells_same w b 0 (wcl l) (by rw[zsX,hl];exact h.there _ rfl) j (.int .u32 (tv l[j])) (by simp[wcl,hj]);rw[Nat.zero_add] at h1;exact⟨h1,by rw[World.frozen?_setCells];exact (h j (by omega)).2⟩
theorem QAt.apart {w:Wo} {b c:Nat} {l:List UInt32} (h:QAt w b l) (hne:b≠c) (o:Nat) (vs:List Value):QAt (w.setCells c o vs) b l:=fun j hj =>
 ⟨by rw[World.cell?_setCells_out c vs o w _ (fun hh=>absurd hh hne)];exact (h j hj).1,by rw[World.frozen?_setCells];exact (h j hj).2⟩
theorem QAt.some {w:Wo} {b:Nat} {l:List UInt32} (h:QAt w b l) (j:Nat) (hj:j < l.length):∃v,w.cell? ⟨b,j,none⟩ = .some v/\w.frozen? ⟨b,j,none⟩=false:=⟨_,h j hj⟩
set_option maxRecDepth 20000 in
theorem zud (k n:Ba) (c:UInt32) (hk:Hid (k.size=32)) (hn:Hid (n.size=12)) (w:Wo) :
  Cl 315 #[.string k,.string n,.int .u32 (tv c)] w fun e w'=>e = .returned (.agg (wcl (zr6 k.data.toList n.data.toList c)).toArray)/\Below w.heap.size w w':=by
 obtain⟨cs,hcs⟩:∃cs,wcl (zr6 k.data.toList n.data.toList c)=cs:=⟨_,rfl⟩;rw[hcs];have HC:Hid (wcl (bg2 k.data.toList n.data.toList c 3)=cs):=by rw[zwn];exact hcs
 clear hcs;obtain⟨A,hA⟩:∃A,w.alloc (.cells #[.int .u32 0,.int .u32 0,.int .u32 0,.int .u32 0,.int .u32 0,.int .u32 0,.int .u32 0,.int .u32 0,.int .u32 0,.int .u32 0,.int .u32 0,.int .u32 0,.int .u32 0,.int .u32 0,.int .u32 0,.int .u32 0] 370)=A:=⟨_,rfl⟩;obtain⟨D,hD⟩:∃D,A.alloc (.cells #[.int .u32 0,.int .u32 0,.int .u32 0,.int .u32 0,.int .u32 0,.int .u32 0,.int .u32 0,.int .u32 0,.int .u32 0,.int .u32 0,.int .u32 0,.int .u32 0,.int .u32 0,.int .u32 0,.int .u32 0,.int .u32 0] 370)=D:=⟨_,rfl⟩;have sA:A.heap.size=w.heap.size+1:=by rw[<-hA];simp
 obtain⟨g,hg⟩:∃g,w.heap.size=g:=⟨_,rfl⟩;obtain⟨g2,hg2⟩:∃g2,g+1=g2:=⟨_,rfl⟩;have BL:Hid (bg1 [] 0=bg1 k.data.toList 0):=by show _=_;simp[bg1,rd]
 have ID:Hid (QAt D g (List.replicate 16 0)/\QAt D g2 (List.replicate 16 0)/\Below g w D):=by
  have q1:=QAt.zeros w 370;rw[hA,hg] at q1;have q2:=QAt.zeros A 370;rw[hD,sA,hg,hg2] at q2;have bD:Below A.heap.size A D:=hD ▸ (bQ _ _).alloc (nL _) _;have bA:Below w.heap.size w A:=hA ▸ (bQ _ _).alloc (nL _) _;exact⟨q1.later bD,q2,hg ▸ chain bA bD⟩
 obtain⟨V,hV⟩:∃V,D.setCells g2 0 (wcl (bg1 [] 0)).toArray.toList=V:=⟨_,rfl⟩;have TH:Hid (D.there g2 0 16):=ID.out.2.1.there 16 rfl;have HL:Hid ((wcl (bg1 [] 0)).length=16/\(wcl (bg1 [] 0)).toArray.all (·.oneCell')=true):=⟨rfl,all_oneCell_toArray (ztI _)⟩;have HV:Hid (_=_):=hV;go_enter Tryz.func315, Tryz.ntmps315;go_wp2_with (first
  | (refine wpList_store_mid rfl 370 (.tmp 7) (.tmp 10) rfl g2 0 (wcl (bg1 [] 0)).toArray rfl (by kernel_rfl) (by rw[List.size_toArray,HL.out.1];exact TH.out) (by rw[List.size_toArray,HL.out.1];exact zsH) HL.out.2 ?_;rw[HV.out]))
 have IV:Hid (QAt V g (List.replicate 16 0)/\QAt V g2 (bg1 k.data.toList 0)/\Below g w V):=by
  obtain⟨h1,h2,h3⟩:=ID.out;rw[<-BL.out,<-hV];exact⟨h1.apart (by omega) _ _,h2.stored rfl,below_setCells (by omega) _ _ _ h3⟩
 have HG:Hid (w.heap.size=g):=hg;have HN:Hid (g<=g2/\g2≠g):=by show _/\_;omega
 clear hA hD sA hg hg2 ID hV TH HL HV BL;go_loopw [11] (fun i wr=>∃q:Nat,q<=8/\i = .int .i64 (q:Int)/\Hid (QAt wr g (List.replicate 16 0)/\QAt wr g2 (bg1 k.data.toList q)/\Below g w wr)) (fun i _=>8 - (intOf i).toNat)
 case atStart=>exact⟨0,by omega,rfl,IV.out⟩
 case round =>
  obtain⟨q,hq,rfl,I⟩:=hrel;clear IV;by_cases hq8:q=8
  ·subst hq8
   rw[show ((8:Nat):Int)=8 from rfl];obtain⟨v0,c12,f12⟩:=I.out.2.1.some 12 (by rw[zuB _ _ (by decide)];decide);go_wp2;obtain⟨X,hX⟩:∃X,wr.setCell ⟨g2,12,none⟩ (.int .u32 (tv c))=X:=⟨_,rfl⟩;have IX:Hid (QAt X g (List.replicate 16 0)/\QAt X g2 (bg2 k.data.toList n.data.toList c 0)/\Below g w X):=by
    obtain⟨h1,h2,h3⟩:=I.out;obtain⟨m1,m2⟩:=HN.out;rw[<-hX,<-zxm];exact⟨h1.other (a:=⟨g2,12,none⟩) m2 _,h2.set 12 c,h3.setCell (p:=⟨g2,12,none⟩) m1 _⟩
   rw[hX];clear hX c12 f12 I;go_loopw [25] (fun i wx=>∃q:Nat,q<=3/\i = .int .i64 (q:Int)/\Hid (QAt wx g (List.replicate 16 0)/\QAt wx g2 (bg2 k.data.toList n.data.toList c q)/\Below g w wx)) (fun i _=>3 - (intOf i).toNat)
   case atStart=>exact⟨0,by omega,rfl,IX.out⟩
   case round =>
    obtain⟨q,hq,rfl,I⟩:=hrel;clear IX;by_cases hq3:q=3
    ·subst hq3
     have J:=I.out;have RG:Hid (wr.rangeAt g2 0 cs):=by show wr.rangeAt g2 0 cs;rw[<-HC.out];exact J.2.1.range
     have TH:Hid (wr.there g 0 16):=J.1.there 16 rfl;have HL:Hid (cs.length=16/\cs.toArray.all (·.oneCell')=true):=by rw[<-HC.out];exact⟨by rw[zsX,zuC _ _ _ _ (by decide)],all_oneCell_toArray (ztI _)⟩
     obtain⟨V,hV⟩:∃V,wr.setCells g 0 cs.toArray.toList=V:=⟨_,rfl⟩;have RV:Hid (V.rangeAt g 0 cs/\Below g w V):=by
      rw[<-hV];exact⟨World.rangeAt_setCells_same wr g 0 _ (by show wr.there g 0 cs.length;rw[HL.out.1];exact TH.out),below_setCells (nL _) _ _ _ J.2.2⟩
     have HV:Hid (_=_):=hV;clear hV I J HC;go_wp2_with (first
      | (refine wpList_load_mid rfl 370 (.tmp 7) rfl g2 0 rfl cs _ RG.out Tryz.underlying370 rfl (by rw[HL.out.1];exact zsH) ?_)
      | (refine wpList_store_mid rfl 370 (.tmp 6) (.tmp 37) rfl g 0 cs.toArray rfl rfl (by rw[List.size_toArray,HL.out.1];exact TH.out) (by rw[List.size_toArray,HL.out.1];exact zsH) HL.out.2 ?_;rw[HV.out]))
     refine bodyPost_ret (v := .agg cs.toArray) ?_ rfl ⟨rfl,by rw[HG.out];exact RV.out.2⟩;exact zuD _ V g _ (by kernel_rfl) (run_loadVar_mid V g 0 370 cs _ RV.out.1 Tryz.underlying370 rfl (by rw[HL.out.1];exact zsH))
    ·obtain⟨p,hp⟩:∃p,13+q=p:=⟨_,rfl⟩
     obtain⟨r,hr⟩:∃r,4*q=r:=⟨_,rfl⟩;have z3:(q:Int) < 3:=by omega
     have a0:IntKind.i64.wrap (13+(q:Int))=(p:Int):=by rw[IntKind.wrap_i64];omega
     have a1:IntKind.i64.wrap (4*(q:Int))=(r:Int):=by rw[IntKind.wrap_i64];omega
     have e0:13+(q:Int)=(p:Int):=by omega
     have e1:4*(q:Int)=(r:Int):=by omega
     have p16:(p:Int) < 16:=by omega
     have r12:(r:Int)<=(n.size:Int):=by have:=hn.out;omega
     obtain⟨v0,cp,fp⟩:=I.out.2.1.some p (by rw[zuC _ _ _ _ (by omega)];omega);have RC:Hid (rdw (n.extract r n.size).data.toList 0=rdw n.data.toList q/\4<=(n.extract r n.size).size):=by
      have hn':=hn.out;refine⟨by rw[<-hr];exact zuE n q (by omega),by rw[ByteArray.size_extract];omega⟩
     have BS:Hid (_=_):=zvz k.data.toList n.data.toList c q (by omega);rw[hp] at BS;have HR:Hid (4*q=r/\13+q=p):=⟨hr,hp⟩;clear hr hp;go_wp2_with fail;refine cM (ztl _ RC.out.2 _) ?_;rintro e w2 ⟨rfl,m,rfl⟩;rw[RC.out.1];have NX:Hid (QAt ((wr.drewN m).setCell ⟨g2,p,none⟩ (.int .u32 (tv (rdw n.data.toList q)))) g (List.replicate 16 0)/\QAt ((wr.drewN m).setCell ⟨g2,p,none⟩ (.int .u32 (tv (rdw n.data.toList q)))) g2 (bg2 k.data.toList n.data.toList c (q+1))/\Below g w ((wr.drewN m).setCell ⟨g2,p,none⟩ (.int .u32 (tv (rdw n.data.toList q))))):=by
      obtain⟨h1,h2,h3⟩:=I.out;obtain⟨m1,m2⟩:=HN.out;rw[<-BS.out];exact⟨QAt.other (w:=wr.drewN m) h1 (a:=⟨g2,p,none⟩) m2 _,QAt.set (w:=wr.drewN m) h2 p _,(below_drewN h3 m).setCell (p:=⟨g2,p,none⟩) m1 _⟩
     clear BS RC I;go_wp2;go_roundw
     case rel=>exact⟨q+1,by omega,by go_num,NX.out⟩
     case measure=>simp[intOf];omega
  ·obtain⟨p,hp⟩:∃p,4+q=p:=⟨_,rfl⟩
   obtain⟨r,hr⟩:∃r,4*q=r:=⟨_,rfl⟩;have z3:(q:Int) < 8:=by omega
   have a0:IntKind.i64.wrap (4+(q:Int))=(p:Int):=by rw[IntKind.wrap_i64];omega
   have a1:IntKind.i64.wrap (4*(q:Int))=(r:Int):=by rw[IntKind.wrap_i64];omega
   have e0:4+(q:Int)=(p:Int):=by omega
   have e1:4*(q:Int)=(r:Int):=by omega
   have p16:(p:Int) < 16:=by omega
   have r12:(r:Int)<=(k.size:Int):=by have:=hk.out;omega
   obtain⟨v0,cp,fp⟩:=I.out.2.1.some p (by rw[zuB _ _ (by omega)];omega);have RC:Hid (rdw (k.extract r k.size).data.toList 0=rdw k.data.toList q/\4<=(k.extract r k.size).size):=by
    have hk':=hk.out;refine⟨by rw[<-hr];exact zuE k q (by omega),by rw[ByteArray.size_extract];omega⟩
   have BS:Hid (_=_):=zvy k.data.toList q (by omega);rw[hp] at BS;have HR:Hid (4*q=r/\4+q=p):=⟨hr,hp⟩;clear hr hp;go_wp2_with fail;refine cM (ztl _ RC.out.2 _) ?_;rintro e w2 ⟨rfl,m,rfl⟩;rw[RC.out.1];have NX:Hid (QAt ((wr.drewN m).setCell ⟨g2,p,none⟩ (.int .u32 (tv (rdw k.data.toList q)))) g (List.replicate 16 0)/\QAt ((wr.drewN m).setCell ⟨g2,p,none⟩ (.int .u32 (tv (rdw k.data.toList q)))) g2 (bg1 k.data.toList (q+1))/\Below g w ((wr.drewN m).setCell ⟨g2,p,none⟩ (.int .u32 (tv (rdw k.data.toList q))))):=by
    obtain⟨h1,h2,h3⟩:=I.out;obtain⟨m1,m2⟩:=HN.out;rw[<-BS.out];exact⟨QAt.other (w:=wr.drewN m) h1 (a:=⟨g2,p,none⟩) m2 _,QAt.set (w:=wr.drewN m) h2 p _,(below_drewN h3 m).setCell (p:=⟨g2,p,none⟩) m1 _⟩
   clear BS RC I;go_wp2;go_roundw
   case rel=>exact⟨q+1,by omega,by go_num,NX.out⟩
   case measure=>simp[intOf];omega
end Go.Proofs.YtjcppbhgjchjaaaGreatDoor
