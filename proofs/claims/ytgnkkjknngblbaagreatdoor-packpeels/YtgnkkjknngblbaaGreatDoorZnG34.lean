/- Parts: WM,WM2,WRp,RP,WX,WR1,WE,WR2,WR3. -/
import Derived.Test.YtgnkkjknngblbaaGreatDoorZnG16
import Derived.Test.YtgnkkjknngblbaaGreatDoorZnG25
import Derived.Test.YtgnkkjknngblbaaGreatDoorZnG26
import Derived.Test.YtgnkkjknngblbaaGreatDoorZnG01
import Derived.Shelf.Strings.Repeat
import Derived.Test.YtgnkkjknngblbaaGreatDoorZnG24
import Derived.Test.YtgnkkjknngblbaaGreatDoorZnG18
import Derived.Test.YtgnkkjknngblbaaGreatDoorZnG29
namespace Go.Proofs.Wd
open Go.Proofs.Hs Go.Proofs.Cc
def lab:List UInt8:=[119,105,100,101]
def wkey (key:List UInt8) (i:Nat):List UInt8:=((drv key lab 128).drop (32*i)).take 32
theorem wkey_len (key:List UInt8) (i:Nat) (h:i < 4):(wkey key i).length=32:=by
 unfold wkey drv
 rw[List.length_take,List.length_drop,xpn_len];omega
def z12:List UInt8:=List.replicate 12 0
def stR (k l r:List UInt8):List UInt8:=xorl r (strm (xorl l k) z12 0 r.length)
def stL (k l r:List UInt8):List UInt8:=xorl l (hmac k r)
theorem stR_len (k l r:List UInt8):(stR k l r).length=r.length:=by
 unfold stR;exact xorl_len _ _ (by rw[strm_len];exact Nat.le_refl _)
theorem stL_len (k l r:List UInt8) (h:l.length=32):(stL k l r).length=32:=by
 unfold stL;rw[xorl_len _ _ (by rw[hmac_len,h];exact Nat.le_refl _),h]
theorem stR_twice (k l r:List UInt8):stR k l (stR k l r)=r:=by
 have e:(stR k l r).length=r.length:=stR_len k l r
 unfold stR at *
 rw[e,xorl_twice _ _ (by rw[strm_len];exact Nat.le_refl _)]
theorem stL_twice (k l r:List UInt8) (h:l.length=32):stL k (stL k l r) r=l:=by
 unfold stL
 exact xorl_twice _ _ (by rw[hmac_len,h];exact Nat.le_refl _)
def stp (key:List UInt8) (i:Nat) (p:List UInt8×List UInt8):List UInt8×List UInt8 :=
 if i % 2=0 then (p.1,stR (wkey key i) p.1 p.2) else (stL (wkey key i) p.1 p.2,p.2)
theorem stp_even (key:List UInt8) (i:Nat) (l r:List UInt8) (h:i % 2=0):stp key i (l,r)=(l,stR (wkey key i) l r):=by unfold stp;rw[if_pos h]
theorem stp_odd (key:List UInt8) (i:Nat) (l r:List UInt8) (h:¬i % 2=0):stp key i (l,r)=(stL (wkey key i) l r,r):=by unfold stp;rw[if_neg h]
theorem stp_len (key:List UInt8) (i:Nat) (p:List UInt8×List UInt8) (h:p.1.length=32):(stp key i p).1.length=32∧(stp key i p).2.length=p.2.length:=by
 unfold stp
 split
 ·exact⟨h,stR_len _ _ _⟩
 ·exact⟨stL_len _ _ _ h,rfl⟩
theorem stp_twice (key:List UInt8) (i:Nat) (p:List UInt8×List UInt8) (h:p.1.length=32):stp key i (stp key i p)=p:=by
 obtain⟨l,r⟩:=p
 by_cases hi:i % 2=0
 ·rw[stp_even _ _ _ _ hi,stp_even _ _ _ _ hi,stR_twice]
 ·rw[stp_odd _ _ _ _ hi,stp_odd _ _ _ _ hi,stL_twice _ _ _ h]
def run (key:List UInt8) (steps:List Nat) (p:List UInt8×List UInt8):List UInt8×List UInt8:=steps.foldl (fun p i=>stp key i p) p
theorem run_cons (key:List UInt8) (i:Nat) (steps:List Nat) (p:List UInt8×List UInt8):run key (i::steps) p=run key steps (stp key i p):=rfl
theorem run_nil (key:List UInt8) (p:List UInt8×List UInt8):run key [] p=p:=rfl
theorem run_snoc (key:List UInt8) (i:Nat) (steps:List Nat) (p:List UInt8×List UInt8):run key (steps++[i]) p=stp key i (run key steps p):=by
 unfold run;rw[List.foldl_append];rfl
theorem run_len (key:List UInt8) (steps:List Nat) (p:List UInt8×List UInt8) (h:p.1.length=32):(run key steps p).1.length=32∧(run key steps p).2.length=p.2.length:=by
 induction steps generalizing p with
 | nil=>exact⟨h,rfl⟩
 | cons i s ih =>
  rw[run_cons]
  obtain⟨h1,h2⟩:=stp_len key i p h
  obtain⟨h3,h4⟩:=ih (stp key i p) h1
  exact⟨h3,h4.trans h2⟩
theorem run_back (key:List UInt8) (steps:List Nat) (p:List UInt8×List UInt8) (h:p.1.length=32):run key steps.reverse (run key steps p)=p:=by
 induction steps generalizing p with
 | nil=>rfl
 | cons i s ih =>
  rw[List.reverse_cons,run_cons,run_snoc,ih (stp key i p) (stp_len key i p h).1,stp_twice key i p h]
def trnd (key:List UInt8) (steps:List Nat) (b:List UInt8):List UInt8:=(run key steps (b.take 32,b.drop 32)).1++(run key steps (b.take 32,b.drop 32)).2
theorem trnd_len (key:List UInt8) (steps:List Nat) (b:List UInt8) (h:32≤b.length):(trnd key steps b).length=b.length:=by
 obtain⟨h1,h2⟩:=run_len key steps (b.take 32,b.drop 32) (by rw[List.length_take];omega)
 unfold trnd
 rw[List.length_append,h1,h2]
 show 32+(b.drop 32).length=_
 rw[List.length_drop];omega
theorem trnd_back (key:List UInt8) (steps:List Nat) (b:List UInt8) (h:32≤b.length):trnd key steps.reverse (trnd key steps b)=b:=by
 have hl:(b.take 32,b.drop 32).1.length=32:=by rw[List.length_take];omega
 obtain⟨h1,h2⟩:=run_len key steps (b.take 32,b.drop 32) hl
 have e1:(trnd key steps b).take 32=(run key steps (b.take 32,b.drop 32)).1:=by
  unfold trnd;rw[List.take_append_of_le_length (by omega),List.take_of_length_le (by omega)]
 have e2:(trnd key steps b).drop 32=(run key steps (b.take 32,b.drop 32)).2:=by
  unfold trnd;rw[List.drop_append_of_le_length (by omega),List.drop_of_length_le (by omega),List.nil_append]
 have e3:trnd key steps.reverse (trnd key steps b)=(run key steps.reverse ((trnd key steps b).take 32,(trnd key steps b).drop 32)).1++(run key steps.reverse ((trnd key steps b).take 32,(trnd key steps b).drop 32)).2:=rfl
 rw[e3,e1,e2]
 have e4:((run key steps (b.take 32,b.drop 32)).1,(run key steps (b.take 32,b.drop 32)).2)=run key steps (b.take 32,b.drop 32):=rfl
 rw[e4,run_back key steps _ hl]
 exact List.take_append_drop 32 b
def shutl (key b:List UInt8):List UInt8:=trnd key [0,1,2,3] b
def openl (key b:List UInt8):List UInt8:=trnd key [3,2,1,0] b
theorem shutl_len (key b:List UInt8) (h:32≤b.length):(shutl key b).length=b.length:=trnd_len _ _ _ h
theorem openl_len (key b:List UInt8) (h:32≤b.length):(openl key b).length=b.length:=trnd_len _ _ _ h
theorem open_shut (key b:List UInt8) (h:32≤b.length):openl key (shutl key b)=b:=trnd_back key [0,1,2,3] b h
def plainl (t:List UInt8) (n:Nat):List UInt8:=List.replicate 32 0++[UInt8.ofNat (t.length / 256),UInt8.ofNat t.length]++t++List.replicate (n - 34 - t.length) 0
theorem plainl_len (t:List UInt8) (n:Nat) (h:t.length+34≤n):(plainl t n).length=n:=by
 unfold plainl;simp;omega
def told (b:List UInt8):Nat:=(b.getD 32 0).toNat*256+(b.getD 33 0).toNat
def textl (b:List UInt8):Option (List UInt8) :=
 if (b.take 32).all (· == 0)=true∧told b+34≤b.length∧(b.drop (34+told b)).all (· == 0)=true then some ((b.drop 34).take (told b)) else none
theorem text_plain (t:List UInt8) (n:Nat) (h:t.length+34≤n) (hn:n≤65536):textl (plainl t n)=some t:=by
 have ht:told (plainl t n)=t.length:=by
  have e:plainl t n=List.replicate 32 0++(UInt8.ofNat (t.length / 256)::UInt8.ofNat t.length::(t++List.replicate (n - 34 - t.length) 0)):=by unfold plainl;simp
  rw[e]
  show (UInt8.ofNat (t.length / 256)).toNat*256+(UInt8.ofNat t.length).toNat=_
  rw[UInt8.toNat_ofNat',UInt8.toNat_ofNat']
  omega
 have e1:(plainl t n).take 32=List.replicate 32 0:=by
  unfold plainl
  rw[List.append_assoc,List.append_assoc,List.take_append_of_le_length (by simp),List.take_of_length_le (by simp)]
 have e2:(plainl t n).drop 34=t++List.replicate (n - 34 - t.length) 0:=by
  unfold plainl
  rw[List.append_assoc,List.drop_append_of_le_length (by simp),List.drop_of_length_le (by simp),List.nil_append]
 have e3:(plainl t n).drop (34+t.length)=List.replicate (n - 34 - t.length) 0:=by
  rw[←List.drop_drop,e2,List.drop_append_of_le_length (Nat.le_refl _),List.drop_length,List.nil_append]
 unfold textl
 rw[ht,e1,e2,e3,plainl_len t n h,if_pos ⟨by simp,by omega,by simp⟩,List.take_append_of_le_length (Nat.le_refl _),List.take_length]
end Go.Proofs.Wd
namespace Go.Proofs.Wd
def pln (t:List UInt8) (n q:Nat):List UInt8:=List.replicate 32 0++[UInt8.ofNat (t.length / 256),UInt8.ofNat t.length]++t.take q++List.replicate (n - 34 - q) 0
theorem pln_len (t:List UInt8) (n q:Nat) (h:q≤t.length) (hn:t.length+34≤n):(pln t n q).length=n:=by unfold pln;simp;omega
theorem pln_zero (t:List UInt8) (n:Nat) (hn:34≤n):((List.replicate n (0:UInt8)).set 32 (UInt8.ofNat (t.length / 256))).set 33 (UInt8.ofNat t.length)=pln t n 0:=by
 obtain⟨m,rfl⟩:∃m,n=32+(m+2):=⟨n - 34,by omega⟩
 have e:List.replicate (32+(m+2)) (0:UInt8)=List.replicate 32 0++(0::0::List.replicate m 0):=by
  rw[←List.replicate_append_replicate];rfl
 unfold pln
 rw[e,show 32+(m+2) - 34 - 0=m by omega,List.take_zero,List.append_nil,List.append_assoc]
 rw[List.set_append_right _ _ (by simp),List.set_append_right _ _ (by simp)]
 simp
theorem all_zero (l:List UInt8):l.all (· == 0)=true↔∀j,j < l.length→l.getD j 0=0:=by
 rw[List.all_eq_true]
 constructor
 ·intro h j hj
  rw[List.getD_eq_getElem?_getD,List.getElem?_eq_getElem hj]
  simpa using h l[j] (List.getElem_mem hj)
 ·intro h x hx
  obtain⟨j,hj,rfl⟩:=List.mem_iff_getElem.1 hx
  have:=h j hj
  rw[List.getD_eq_getElem?_getD,List.getElem?_eq_getElem hj] at this
  simpa using this
theorem text_yes (l:List UInt8) (hl:34≤l.length) (h1:∀j,j < 32→l.getD j 0=0) (h2:told l+34≤l.length) (h3:∀j,34+told l≤j→j < l.length→l.getD j 0=0):textl l=some ((l.drop 34).take (told l)):=by
 unfold textl
 rw[if_pos]
 refine⟨(all_zero _).2 fun j hj => ?_,h2,(all_zero _).2 fun j hj => ?_⟩
 ·have hj':j < 32:=by rw[List.length_take] at hj;omega
  have:=h1 j hj'
  rw[List.getD_eq_getElem?_getD] at this ⊢
  rw[List.getElem?_take_of_lt hj']
  exact this
 ·rw[List.length_drop] at hj
  have:=h3 (34+told l+j) (by omega) (by omega)
  rw[List.getD_eq_getElem?_getD] at this ⊢
  rw[List.getElem?_drop]
  exact this
theorem text_no1 (l:List UInt8) (j:Nat) (hj:j < 32) (hl:34≤l.length) (h:l.getD j 0≠0):textl l=none:=by
 unfold textl
 rw[if_neg]
 rintro ⟨h1,-,-⟩
 have:=(all_zero _).1 h1 j (by rw[List.length_take];omega)
 rw[List.getD_eq_getElem?_getD,List.getElem?_take_of_lt hj,←List.getD_eq_getElem?_getD] at this
 exact h this
theorem text_no2 (l:List UInt8) (h:l.length < told l+34):textl l=none:=by
 unfold textl
 rw[if_neg]
 rintro ⟨-,h2,-⟩
 omega
theorem text_no3 (l:List UInt8) (j:Nat) (h1:34+told l≤j) (h2:j < l.length) (h:l.getD j 0≠0):textl l=none:=by
 unfold textl
 rw[if_neg]
 rintro ⟨-,-,h3⟩
 have:=(all_zero _).1 h3 (j - (34+told l)) (by rw[List.length_drop];omega)
 rw[List.getD_eq_getElem?_getD,List.getElem?_drop,show 34+told l+(j - (34+told l))=j by omega,←List.getD_eq_getElem?_getD] at this
 exact h this
end Go.Proofs.Wd
namespace Go.Proofs.YtgnkkjknngblbaaGreatDoor
open Go.RowKit Go.Proofs.Fd Go.Proofs.Hs Go.Proofs.Cc Go.Proofs.Wd
set_option maxRecDepth 20000
theorem ba_sz (l:List UInt8):(⟨l.toArray⟩:ByteArray).size=l.length:=by show l.toArray.size=_;simp
theorem ba_cut (l:List UInt8) (a b:Nat):((⟨l.toArray⟩:ByteArray).extract a b).data.toList=(l.drop a).take (b - a):=by
 rw[ByteArray.data_extract,Array.toList_extract,List.extract_eq_take_drop]
theorem ba_of {s:ByteArray} {l:List UInt8} (h:s.data.toList=l):s=⟨l.toArray⟩:=by cases s;subst h;simp
theorem list_sz (s:ByteArray):s.data.toList.length=s.size:=by simp
def txV (l:List UInt8):Array Value:=match textl l with
 | some t=>#[.string ⟨t.toArray⟩,.bool true]
 | none=>#[.string ⟨#[]⟩,.bool false]
theorem txV_no (l:List UInt8) (h:textl l=none):txV l=#[.string ⟨#[]⟩,.bool false]:=by unfold txV;rw[h]
theorem txV_yes (l t:List UInt8) (h:textl l=some t):txV l=#[.string ⟨t.toArray⟩,.bool true]:=by unfold txV;rw[h]
theorem ba_getD (b:ByteArray) (j:Nat) (h:j < b.size):b.data.toList.getD j 0=b[j]:=by
 rw[List.getD_eq_getElem?_getD,List.getElem?_eq_getElem (by rw[list_sz];exact h)]
 rfl
set_option maxHeartbeats 1000000 in
theorem rText_any (b:ByteArray) (h0:64≤b.size) (h1:b.size≤8192) (w:World) :
  Calls Tryz.prog 26 #[.string b] w fun e w'=>e = .returned (.tuple (txV b.data.toList))∧Below w.heap.size w w':=by
 have hl:Hid (b.data.toList.length=b.size):=list_sz b
 obtain⟨V,hV⟩:∃V,txV b.data.toList=V:=⟨_,rfl⟩
 rw[hV]
 have HV:Hid (txV b.data.toList=V):=hV
 clear hV
 obtain⟨m,hm⟩:∃m,told b.data.toList=m:=⟨_,rfl⟩
 have HT:Hid (told b.data.toList=m):=hm
 have g32:(32:Int) < (b.size:Int):=by omega
 have g33:(33:Int) < (b.size:Int):=by omega
 have l32:32 < b.size:=by omega
 have l33:33 < b.size:=by omega
 have em:(b[32].toNat:Int)*256+(b[33].toNat:Int)=(m:Int):=by
  rw[←hm]
  unfold told
  rw[ba_getD b 32 l32,ba_getD b 33 l33]
  omega
 have mb:m≤65535:=by
  have h1:=b[32].toNat_lt
  have h2:=b[33].toNat_lt
  omega
 obtain⟨x,hx⟩:∃x,b[32]=x:=⟨_,rfl⟩
 obtain⟨y,hy⟩:∃y,b[33]=y:=⟨_,rfl⟩
 rw[hx,hy] at em
 have em2:(x.toNat:Int)*(256:Int)+(y.toNat:Int)=(m:Int):=by omega
 clear em
 have xb:=x.toNat_lt
 have yb:=y.toNat_lt
 clear hm
 go_enter Tryz.func26, Tryz.ntmps26
 go_wp2
 go_loopw [4] (fun i wr=>∃q:Nat,q≤32∧i = .int .i64 (q:Int)∧Hid ((∀j,j < q→b.data.toList.getD j 0=0)∧Below w.heap.size w wr)) (fun i _=>32 - (intOf i).toNat)
 case atStart=>exact⟨0,by omega,rfl,fun j hj=>by omega,Below.refl _ _⟩
 case round =>
  obtain⟨q,hq,rfl,I⟩:=hrel
  by_cases hq32:q=32
  ·subst hq32
   rw[show ((32:Nat):Int)=32 from rfl]
   have B0:Hid (Below w.heap.size w wr):=I.out.2
   have Z0:Hid (∀j,j < 32→b.data.toList.getD j 0=0):=I.out.1
   clear I
   go_wp2
   go_quiet (fail)
   have B1:Hid (Below w.heap.size w (wr.drewN nq)):=below_drewN B0.out nq
   clear B0
   by_cases hbig:b.size < m+34
   ·have gb:(b.size:Int) - 32 - 2 < (m:Int):=by omega
    have NO:Hid (V=#[.string ⟨#[]⟩,.bool false]):=by
     show _=_
     rw[←HV.out]
     exact txV_no _ (text_no2 _ (by rw[hl.out,HT.out];omega))
    go_wp2
    go_ret2
    exact⟨by rw[NO.out];rfl,B1.out⟩
   ·have gb:¬(b.size:Int) - 32 - 2 < (m:Int):=by omega
    have gb2:(m:Int)≤(b.size:Int) - 32 - 2:=by omega
    obtain⟨p,hp⟩:∃p,34+m=p:=⟨_,rfl⟩
    have p0:34+(m:Int)=(p:Int):=by omega
    have p1:IntKind.i64.wrap (34+(m:Int))=(p:Int):=by rw[IntKind.wrap_i64];omega
    have pb:(p:Int)≤(b.size:Int):=by omega
    have p34:(34:Int)≤(p:Int):=by omega
    go_wp2
    go_loopw [6] (fun i wx=>∃q:Nat,q≤b.size∧i = .int .i64 (q:Int)∧Hid (34+m≤q∧(∀j,34+m≤j→j < q→b.data.toList.getD j 0=0)∧Below w.heap.size w wx)) (fun i _=>b.size - (intOf i).toNat)
    case atStart=>exact⟨p,by omega,rfl,by omega,fun j hj1 hj2=>by omega,B1.out⟩
    case round =>
     obtain⟨q,hq,rfl,I⟩:=hrel
     by_cases hlt:q < b.size
     ·have zq:(q:Int) < (b.size:Int):=by omega
      obtain⟨z,hz⟩:∃z,b[q]=z:=⟨_,rfl⟩
      have HZ:Hid (b.data.toList.getD q 0=z):=by show _=_;rw[ba_getD b q hlt,hz]
      by_cases h0z:z=0
      ·subst h0z
       have HQ:Hid (34+m≤q):=I.out.1
       go_wp2
       go_roundw
       case rel=>exact⟨q+1,by omega,by go_num,by have:=HQ.out;omega,fun j hj1 hj2=>by
        by_cases e:j=q
        ·rw[e];exact HZ.out
        ·exact I.out.2.1 j hj1 (by omega),I.out.2.2⟩
       case measure=>simp[intOf];omega
      ·have nz:¬(z.toNat:Int)=0:=fun h=>h0z (UInt8.toNat_inj.1 (by simpa using h))
       have NO:Hid (V=#[.string ⟨#[]⟩,.bool false]):=by
        show _=_
        rw[←HV.out]
        exact txV_no _ (text_no3 _ q (by rw[HT.out];exact I.out.1) (by rw[hl.out];exact hlt) (by rw[HZ.out];exact h0z))
       go_wp2
       go_ret2
       exact⟨by rw[NO.out];rfl,I.out.2.2⟩
     ·have zq:¬(q:Int) < (b.size:Int):=by omega
      have YES:Hid (V=#[.string (b.extract 34 p),.bool true]):=by
       show _=_
       rw[←HV.out]
       have e:=text_yes b.data.toList (by rw[hl.out];omega) Z0.out (by rw[HT.out,hl.out];omega) (fun j h1 h2=>by rw[HT.out] at h1;rw[hl.out] at h2;exact I.out.2.1 j h1 (by omega))
       rw[HT.out] at e
       rw[txV_yes _ _ e]
       have e2:b.extract 34 p=⟨((b.data.toList.drop 34).take m).toArray⟩:=by
        have e3:(b.extract 34 p).data.toList=(b.data.toList.drop 34).take (p - 34):=by
         have:=ba_cut b.data.toList 34 p
         rw[←ba_of (rfl:b.data.toList=b.data.toList)] at this
         exact this
        rw[ba_of e3,←hp,show 34+m - 34=m by omega]
       rw[e2]
      clear hp
      go_wp2
      go_ret2
      exact⟨by rw[YES.out];rfl,I.out.2.2⟩
  ·have q32:(q:Int) < 32:=by omega
   have lq:q < b.size:=by omega
   have zq:(q:Int) < (b.size:Int):=by omega
   obtain⟨z,hz⟩:∃z,b[q]=z:=⟨_,rfl⟩
   have HZ:Hid (b.data.toList.getD q 0=z):=by show _=_;rw[ba_getD b q lq,hz]
   by_cases h0z:z=0
   ·subst h0z
    go_wp2
    go_roundw
    case rel=>exact⟨q+1,by omega,by go_num,fun j hj=>by
     by_cases e:j=q
     ·rw[e];exact HZ.out
     ·exact I.out.1 j (by omega),I.out.2⟩
    case measure=>simp[intOf];omega
   ·have nz:¬(z.toNat:Int)=0:=fun h=>h0z (UInt8.toNat_inj.1 (by simpa using h))
    have NO:Hid (V=#[.string ⟨#[]⟩,.bool false]):=by
     show _=_
     rw[←HV.out]
     exact txV_no _ (text_no1 _ q (by omega) (by rw[hl.out];omega) (by rw[HZ.out];exact h0z))
    go_wp2
    go_ret2
    exact⟨by rw[NO.out];rfl,I.out.2⟩
end Go.Proofs.YtgnkkjknngblbaaGreatDoor
namespace Go.Proofs.YtgnkkjknngblbaaGreatDoor
open Go.RowKit Go.Proofs.Fd
set_option maxRecDepth 20000
def repAt:Go.Shelf.Ren:=⟨fun x=>if x=99 then 111 else if x=105 then 81 else if x=165 then 112 else if x=166 then 113 else if x=169 then 115 else if x=170 then 114 else if x=206 then 140 else if x=212 then 110 else if x=240 then 141 else if x=241 then 142 else if x=263 then 138 else if x=264 then 139 else if x=276 then 164 else if x=277 then 165 else 0,fun x=>if x=0 then 0 else if x=3 then 3 else if x=4 then 4 else if x=5 then 5 else if x=9 then 9 else if x=20 then 20 else if x=37 then 43 else if x=46 then 110 else if x=51 then 123 else if x=53 then 42 else if x=70 then 131 else if x=72 then 133 else if x=75 then 136 else if x=76 then 137 else if x=80 then 100 else if x=109 then 129 else if x=127 then 173 else if x=146 then 169 else if x=148 then 171 else if x=164 then 187 else 0,fun n=>n⟩
theorem repLies:Lays.n105 Tryz.prog repAt :=
 { mixed:=by kernel_rfl,f99:=by kernel_rfl,f105:=by kernel_rfl,f165:=by kernel_rfl,f166:=by kernel_rfl,f169:=by kernel_rfl,f170:=by kernel_rfl,f206:=by kernel_rfl,f212:=by kernel_rfl,f240:=by kernel_rfl,f241:=by kernel_rfl,f263:=by kernel_rfl,f264:=by kernel_rfl,f276:=by kernel_rfl,f277:=by kernel_rfl,t0:=by kernel_rfl,a0:=fun _=>by kernel_rfl,z0:=fun _=>by kernel_rfl,v0:=fun _=>by kernel_rfl,t3:=by kernel_rfl,a3:=fun _=>by kernel_rfl,z3:=fun _=>by kernel_rfl,v3:=fun _=>by kernel_rfl,t4:=by kernel_rfl,a4:=fun _=>by kernel_rfl,z4:=fun _=>by kernel_rfl,v4:=fun _=>by kernel_rfl,t5:=by kernel_rfl,a5:=fun _=>by kernel_rfl,z5:=fun _=>by kernel_rfl,v5:=fun _=>by kernel_rfl,t9:=by kernel_rfl,a9:=fun _=>by kernel_rfl,z9:=fun _=>by kernel_rfl,v9:=fun _=>by kernel_rfl,t20:=by kernel_rfl,a20:=fun _=>by kernel_rfl,z20:=fun _=>by kernel_rfl,v20:=fun _=>by kernel_rfl,t37:=by kernel_rfl,a37:=fun _=>by kernel_rfl,z37:=fun _=>by kernel_rfl,v37:=fun _=>by kernel_rfl,t46:=by kernel_rfl,a46:=fun _=>by kernel_rfl,z46:=fun _=>by kernel_rfl,v46:=fun _=>by kernel_rfl,t51:=by kernel_rfl,a51:=fun _=>by kernel_rfl,z51:=fun _=>by kernel_rfl,v51:=fun _=>by kernel_rfl,t53:=by kernel_rfl,a53:=fun _=>by kernel_rfl,z53:=fun _=>by kernel_rfl,v53:=fun _=>by kernel_rfl,t70:=by kernel_rfl,a70:=fun _=>by kernel_rfl,z70:=fun _=>by kernel_rfl,v70:=fun _=>by kernel_rfl,t72:=by kernel_rfl,a72:=fun _=>by kernel_rfl,z72:=fun _=>by kernel_rfl,v72:=fun _=>by kernel_rfl,t75:=by kernel_rfl,a75:=fun _=>by kernel_rfl,z75:=fun _=>by kernel_rfl,v75:=fun _=>by kernel_rfl,t76:=by kernel_rfl,a76:=fun _=>by kernel_rfl,z76:=fun _=>by kernel_rfl,v76:=fun _=>by kernel_rfl,t109:=by kernel_rfl,a109:=fun _=>by kernel_rfl,z109:=fun _=>by kernel_rfl,v109:=fun _=>by kernel_rfl,t127:=by kernel_rfl,a127:=fun _=>by kernel_rfl,z127:=fun _=>by kernel_rfl,v127:=fun _=>by kernel_rfl,t146:=by kernel_rfl,a146:=fun _=>by kernel_rfl,z146:=fun _=>by kernel_rfl,v146:=fun _=>by kernel_rfl,t148:=by kernel_rfl,a148:=fun _=>by kernel_rfl,z148:=fun _=>by kernel_rfl,v148:=fun _=>by kernel_rfl,t164:=by kernel_rfl,a164:=fun _=>by kernel_rfl,z164:=fun _=>by kernel_rfl,v164:=fun _=>by kernel_rfl }
theorem repMore:Builder.Extra Tryz.prog repAt :=
 { sizeBuilder:=by kernel_rfl,liesBuilder:=by kernel_rfl,t5:=by kernel_rfl,a5:=fun _=>by kernel_rfl,z5:=fun _=>by kernel_rfl,v5:=fun _=>by kernel_rfl,infoByte:=by kernel_rfl,cellsByte:=by kernel_rfl,sizeByte:=by kernel_rfl,neB5:=by decide }
theorem rep12 (w:World) :
  Calls Tryz.prog 81 #[.string ⟨#[0]⟩,.int .i64 12] w fun e w'=>e = .returned (.string ⟨#[0,0,0,0,0,0,0,0,0,0,0,0]⟩)∧Below w.heap.size w w' :=
 Any.strings_Repeat_main repLies repMore ⟨#[0]⟩ 12 w (by decide) (by decide) (by decide) (by decide)
end Go.Proofs.YtgnkkjknngblbaaGreatDoor
namespace Go.Proofs.Wd
open Go.Proofs.Hs Go.Proofs.Cc
end Go.Proofs.Wd
namespace Go.Proofs.YtgnkkjknngblbaaGreatDoor
open Go.RowKit Go.Proofs.Fd Go.Proofs.Hs Go.Proofs.Cc Go.Proofs.Wd
set_option maxRecDepth 20000
set_option maxHeartbeats 400000 in
theorem rKey_any (s l:ByteArray) (n:Nat) (hn:n≤8160) (hs:Hid (s.size+64≤140737488355328)) (hl:Hid (l.size+97≤140737488355328)) (w:World) :
  Calls Tryz.prog 38 #[.string s,.string l,.int .i64 (n:Int)] w fun e w'=>e = .returned (.string ⟨(drv s.data.toList l.data.toList n).toArray⟩)∧Below w.heap.size w w':=by
 have D:Hid (∀w,Calls Tryz.prog 74 #[.string s,.string l,.int .i64 (n:Int)] w fun e w'=>e = .returned (.tuple #[.string ⟨(drv s.data.toList l.data.toList n).toArray⟩,.int .i64 0])∧Below w.heap.size w w'):=rDerive_ok s l n hn hs hl
 generalize (⟨(drv s.data.toList l.data.toList n).toArray⟩:ByteArray)=X at *
 go_enter Tryz.func38, Tryz.ntmps38
 go_wp2_with fail
 refine Calls.mono (D.out _) ?_
 rintro e w1 ⟨rfl,hb⟩
 go_wp2
 go_ret
 exact⟨rfl,hb⟩
def wmay (n:Int):Int:=if n < 64 then 3 else if 8192 < n then 2 else 0
theorem wmay_form (n:Int) (h:n < 64):wmay n=3:=if_pos h
theorem wmay_long (n:Int) (h:8192 < n):wmay n=2:=by unfold wmay;rw[if_neg (by omega),if_pos h]
theorem wmay_ok (n:Int) (h1:64≤n) (h2:n≤8192):wmay n=0:=by unfold wmay;rw[if_neg (by omega),if_neg (by omega)]
theorem wmay_zero (n:Int) (h:wmay n=0):64≤n∧n≤8192:=by
 unfold wmay at h
 split at h
 ·exact absurd h (by decide)
 ·split at h
  ·exact absurd h (by decide)
  ·omega
set_option maxHeartbeats 400000 in
theorem rwmay_any (n:Int) (w:World) :
  Calls Tryz.prog 44 #[.int .i64 n] w fun e w'=>e = .returned (.int .i64 (wmay n))∧w'=w:=by
 by_cases h1:n < 64
 ·have E:Hid (wmay n=3):=wmay_form n h1
  go_enter Tryz.func44, Tryz.ntmps44
  go_wp2
  go_ret
  exact⟨by rw[E.out];rfl,rfl⟩
 ·have g1:64≤n:=by omega
  by_cases h2:8192 < n
  ·have E:Hid (wmay n=2):=wmay_long n h2
   go_enter Tryz.func44, Tryz.ntmps44
   go_wp2
   go_ret
   exact⟨by rw[E.out];rfl,rfl⟩
  ·have E:Hid (wmay n=0):=wmay_ok n g1 (by omega)
   go_enter Tryz.func44, Tryz.ntmps44
   go_wp2
   go_ret
   exact⟨by rw[E.out];rfl,rfl⟩
end Go.Proofs.YtgnkkjknngblbaaGreatDoor
namespace Go.Proofs.YtgnkkjknngblbaaGreatDoor
open Go.RowKit Go.Proofs.Fd Go.Proofs.Hs Go.Proofs.Cc Go.Proofs.Wd
set_option maxRecDepth 20000
def shV (k b:ByteArray):Array Value:=if wmay (b.size:Int)=0 then #[.string ⟨(shutl k.data.toList b.data.toList).toArray⟩,.int .i64 0] else #[.string ⟨#[]⟩,.int .i64 (wmay (b.size:Int))]
def opV (k b:ByteArray):Array Value:=if wmay (b.size:Int)=0 then #[.string ⟨(openl k.data.toList b.data.toList).toArray⟩,.int .i64 0] else #[.string ⟨#[]⟩,.int .i64 (wmay (b.size:Int))]
def wrV (k t:ByteArray) (n:Int):Array Value :=
 if wmay n=0 then (if n - 34 < (t.size:Int) then #[.string ⟨#[]⟩,.int .i64 2] else #[.string ⟨(shutl k.data.toList (plainl t.data.toList n.toNat)).toArray⟩,.int .i64 0]) else #[.string ⟨#[]⟩,.int .i64 (wmay n)]
def uwV (k b:ByteArray):Array Value :=
 if wmay (b.size:Int)=0 then (match textl (openl k.data.toList b.data.toList) with
  | some t=>#[.string ⟨t.toArray⟩,.int .i64 0]
  | none=>#[.string ⟨#[]⟩,.int .i64 90]) else #[.string ⟨#[]⟩,.int .i64 (wmay (b.size:Int))]
theorem shV_ok (k b:ByteArray) (h0:64≤b.size) (h1:b.size≤8192):shV k b=#[.string ⟨(shutl k.data.toList b.data.toList).toArray⟩,.int .i64 0]:=by unfold shV;rw[if_pos (wmay_ok _ (by omega) (by omega))]
theorem opV_ok (k b:ByteArray) (h0:64≤b.size) (h1:b.size≤8192):opV k b=#[.string ⟨(openl k.data.toList b.data.toList).toArray⟩,.int .i64 0]:=by unfold opV;rw[if_pos (wmay_ok _ (by omega) (by omega))]
theorem shV_no (k b:ByteArray) (h:wmay (b.size:Int)≠0):shV k b=#[.string ⟨#[]⟩,.int .i64 (wmay (b.size:Int))]:=by unfold shV;rw[if_neg h]
theorem opV_no (k b:ByteArray) (h:wmay (b.size:Int)≠0):opV k b=#[.string ⟨#[]⟩,.int .i64 (wmay (b.size:Int))]:=by unfold opV;rw[if_neg h]
theorem wrV_ok (k t:ByteArray) (n:Nat) (h0:64≤n) (h1:n≤8192) (ht:t.size+34≤n):wrV k t (n:Int)=#[.string ⟨(shutl k.data.toList (plainl t.data.toList n)).toArray⟩,.int .i64 0]:=by
 unfold wrV;rw[if_pos (wmay_ok _ (by omega) (by omega)),if_neg (by omega),Int.toNat_natCast]
theorem uwV_some (k b:ByteArray) (t:List UInt8) (h0:64≤b.size) (h1:b.size≤8192) (h:textl (openl k.data.toList b.data.toList)=some t):uwV k b=#[.string ⟨t.toArray⟩,.int .i64 0]:=by
 unfold uwV;rw[if_pos (wmay_ok _ (by omega) (by omega)),h]
theorem uwV_none (k b:ByteArray) (h0:64≤b.size) (h1:b.size≤8192) (h:textl (openl k.data.toList b.data.toList)=none):uwV k b=#[.string ⟨#[]⟩,.int .i64 90]:=by
 unfold uwV;rw[if_pos (wmay_ok _ (by omega) (by omega)),h]
def ShutC:Prop:=∀(k b:ByteArray) (w:World),Hid (k.size+64≤140737488355328)→Hid (b.size≤140737488355328)→Hid (Kh w) →
  Calls Tryz.prog 71 #[.string k,.string b] w fun e w'=>e = .returned (.tuple (shV k b))∧Below w.heap.size w w'
def OpenC:Prop:=∀(k b:ByteArray) (w:World),Hid (k.size+64≤140737488355328)→Hid (b.size≤140737488355328)→Hid (Kh w) →
  Calls Tryz.prog 56 #[.string k,.string b] w fun e w'=>e = .returned (.tuple (opV k b))∧Below w.heap.size w w'
def WrapC:Prop:=∀(k t:ByteArray) (n:Int) (w:World),Hid (k.size+64≤140737488355328)→Hid (t.size≤140737488355328)→Hid (Kh w) →
  Calls Tryz.prog 70 #[.string k,.string t,.int .i64 n] w fun e w'=>e = .returned (.tuple (wrV k t n))∧Below w.heap.size w w'
def UnwrapC:Prop:=∀(k b:ByteArray) (w:World),Hid (k.size+64≤140737488355328)→Hid (b.size≤140737488355328)→Hid (Kh w) →
  Calls Tryz.prog 57 #[.string k,.string b] w fun e w'=>e = .returned (.tuple (uwV k b))∧Below w.heap.size w w'
end Go.Proofs.YtgnkkjknngblbaaGreatDoor
namespace Go.Proofs.YtgnkkjknngblbaaGreatDoor
open Go.RowKit Go.Proofs.Fd Go.Proofs.Hs Go.Proofs.Cc Go.Proofs.Wd
set_option maxRecDepth 20000
def z12s:ByteArray:=⟨z12.toArray⟩
theorem z12_made (w' w2:World) (h:Below (w'.alloc (.cells (Array.replicate 12 (.int .u8 0)) 5)).heap.size (w'.alloc (.cells (Array.replicate 12 (.int .u8 0)) 5)) w2) :
  (convert 43 9 (.slice (some ⟨w'.heap.size,0,none⟩) 12 12)).run Tryz.prog w2 = .ok (.string z12s) w2:=by
 have hB:BytesAt (w'.alloc (.cells (Array.replicate 12 (.int .u8 0)) 5)) w'.heap.size z12:=fun j hj=>by
  have hj':j < 12:=by simpa[z12] using hj
  refine⟨?_,by simp[go_sem]⟩
  rw[World.cell?_alloc_new,Array.getElem?_replicate,if_pos hj']
  simp only[z12,List.getElem_replicate]
  rfl
 exact (hB.later h).string (cap:=12) (n:=12) rfl
theorem z12_now (w':World):(convert 43 9 (.slice (some ⟨w'.heap.size,0,none⟩) 12 12)).run Tryz.prog (w'.alloc (.cells (Array.replicate 12 (.int .u8 0)) 5)) = .ok (.string z12s) (w'.alloc (.cells (Array.replicate 12 (.int .u8 0)) 5)):=z12_made w' _ (Below.refl _ _)
set_option maxHeartbeats 2000000 in
theorem rturned_any (key block:ByteArray) (st:List Nat) (g cap:Nat) (hst:Hid (st.length=4∧∀q,q < 4→st.getD q 0 < 4)) (hb0:64≤block.size) (hb1:block.size≤8192) (hk:Hid (key.size+64≤140737488355328)) (w:World) (hc:Hid (∀q,q < 4→w.cell? ⟨g,q,none⟩=some (.int .i64 (st.getD q 0:Int)))) :
  Calls Tryz.prog 46 #[.string key,.string block,.slice (some ⟨g,0,none⟩) 4 cap] w fun e w'=>e = .returned (.string ⟨(trnd key.data.toList st block.data.toList).toArray⟩)∧Below w.heap.size w w':=by
 have KY:Hid (∀w,Calls Tryz.prog 38 #[.string key,.string ⟨#[119,105,100,101]⟩,.int .i64 128] w fun e w'=>e = .returned (.string ⟨(drv key.data.toList lab 128).toArray⟩)∧Below w.heap.size w w'):=fun w=>rKey_any key ⟨#[119,105,100,101]⟩ 128 (by decide) hk (by show (4:Nat)+97≤_;decide) w
 obtain⟨A,hA⟩:∃A:ByteArray,⟨(drv key.data.toList lab 128).toArray⟩=A:=⟨_,rfl⟩
 have sA:A.size=128:=by rw[←hA,ba_sz];unfold drv;rw[xpn_len]
 have AK:Hid (∀i,i < 4→(A.extract (32*i) (32*i+32)).data.toList=wkey key.data.toList i∧(A.extract (32*i) (32*i+32)).size=32):=fun i hi=>by
  refine⟨?_,by rw[ByteArray.size_extract,sA];omega⟩
  rw[←hA,ba_cut]
  unfold wkey
  rw[show 32*i+32 - 32*i=32 by omega]
 rw[hA] at KY
 obtain⟨P,hP⟩:∃P:Nat→List UInt8×List UInt8,(fun q=>run key.data.toList (st.take q) (block.data.toList.take 32,block.data.toList.drop 32))=P:=⟨_,rfl⟩
 have PP:Hid (P 0=(block.data.toList.take 32,block.data.toList.drop 32)∧(∀q,q < 4→P (q+1)=stp key.data.toList (st.getD q 0) (P q))∧(∀q,(P q).1.length=32∧(P q).2.length=block.size - 32)∧trnd key.data.toList st block.data.toList=(P 4).1++(P 4).2):=by
  have hl:block.data.toList.length=block.size:=list_sz _
  rw[←hP]
  refine⟨rfl,fun q hq => ?_,fun q => ?_,?_⟩
  ·show run _ (st.take (q+1)) _=_
   have hq':q < st.length:=by rw[hst.out.1];exact hq
   rw[List.take_succ_eq_append_getElem hq',run_snoc,List.getD_eq_getElem?_getD,List.getElem?_eq_getElem hq']
   rfl
  ·have h:=run_len key.data.toList (st.take q) (block.data.toList.take 32,block.data.toList.drop 32) (by show (block.data.toList.take 32).length=32;rw[List.length_take,hl];omega)
   refine⟨h.1,h.2.trans ?_⟩
   show (block.data.toList.drop 32).length=_
   rw[List.length_drop,hl]
  ·show _=(run _ (st.take 4) _).1++(run _ (st.take 4) _).2
   rw[List.take_of_length_le (by rw[hst.out.1];exact Nat.le_refl _)]
   rfl
 rw[PP.out.2.2.2]
 have BL:Hid ((block.extract 0 32).data.toList=(P 0).1∧(block.extract 32 block.size).data.toList=(P 0).2):=by
  have e:block=⟨block.data.toList.toArray⟩:=ba_of rfl
  rw[PP.out.1]
  constructor
  ·rw[e,ba_cut];simp
  ·rw[e,ba_cut,ba_sz]
   show (block.data.toList.drop 32).take _=block.data.toList.drop 32
   rw[List.take_of_length_le (by rw[List.length_drop];exact Nat.le_refl _)]
 clear hP hA
 have b32:(32:Int)≤(block.size:Int):=by omega
 have HM:Hid (∀w:World,(Instr.makeSlice 43 (.int .i64 12) (.int .i64 12)).run Tryz.prog w = .ok (.slice (some ⟨w.heap.size,0,none⟩) 12 12) (w.alloc (.cells (Array.replicate 12 (.int .u8 0)) 5))):=fun _=>by kernel_rfl
 go_enter Tryz.func46, Tryz.ntmps46
 go_wp2_with fail
 refine Calls.mono (KY.out _) ?_
 rintro e w1 ⟨rfl,hbA⟩
 have I1:Hid (Below w.heap.size w w1):=hbA
 clear hbA KY
 go_wp2
 go_quiet (fail)
 have I2:Hid (Below w.heap.size w (w1.drewN nq)):=below_drewN I1.out nq
 go_wp2
 go_loopw [8,9,10] (fun lv rv i wr=>∃(q:Nat) (L R:ByteArray),q≤4∧i = .int .i64 (q:Int)∧lv = .string L∧rv = .string R∧Hid (L.data.toList=(P q).1∧R.data.toList=(P q).2∧Below w.heap.size w wr)) (fun _ _ i _=>4 - (intOf i).toNat)
 case atStart=>exact⟨0,_,_,by omega,rfl,rfl,rfl,BL.out.1,BL.out.2,I2.out⟩
 case round =>
  obtain⟨q,L,R,hq,rfl,rfl,rfl,I⟩:=hrel
  clear I1 I2 BL
  have sL:L.size=32:=by rw[←list_sz,I.out.1];exact (PP.out.2.2.1 q).1
  have sR:R.size=block.size - 32:=by rw[←list_sz,I.out.2.1];exact (PP.out.2.2.1 q).2
  by_cases hq4:q=4
  ·subst hq4
   rw[show ((4:Nat):Int)=4 from rfl]
   have FE:Hid (L++R=⟨((P 4).1++(P 4).2).toArray⟩):=by
    show _=_
    rw[ba_of I.out.1,ba_of I.out.2.1]
    apply ByteArray.ext
    simp
   have SL:Hid (L.size=32∧R.size=block.size - 32):=⟨sL,sR⟩
   have hsum:L.size+R.size≤8192:=by omega
   clear sL sR
   go_wp2
   go_ret
   exact⟨by rw[←FE.out];rfl,I.out.2.2⟩
  ·have q4:q < 4:=by omega
   have z4:(q:Int) < 4:=by omega
   have cq:=cell_later I.out.2.2 (hc.out q q4)
   have h4:=hst.out.2 q q4
   have NP:Hid (_=_):=PP.out.2.1 q q4
   obtain⟨s,hs⟩:∃s,st.getD q 0=s:=⟨_,rfl⟩
   rw[hs] at cq h4 NP
   have SL:Hid (L.size=32∧R.size=block.size - 32):=⟨sL,sR⟩
   have sRi:(R.size:Int)≤8192:=by omega
   clear hs sL sR
   rcases (by omega:s=0∨s=1∨s=2∨s=3) with rfl|rfl|rfl|rfl
   ·rw[show ((0:Nat):Int)=0 from rfl] at cq
    obtain⟨kd,ks⟩:=AK.out 0 (by decide)
    rw[show 32*0=0 from rfl,show 0+32=32 from rfl] at kd ks
    obtain⟨K,hK⟩:∃K,A.extract 0 32=K:=⟨_,rfl⟩
    rw[hK] at kd ks
    obtain⟨X,hX⟩:∃X:ByteArray,⟨(xorl L.data.toList K.data.toList).toArray⟩=X:=⟨_,rfl⟩
    have sX:X.size=32:=by rw[←hX,ba_sz,xorl_len _ _ (by rw[list_sz,list_sz,SL.out.1,ks];exact Nat.le_refl _),list_sz,SL.out.1]
    obtain⟨S,hS⟩:∃S:ByteArray,⟨(strm X.data.toList z12 0 R.size).toArray⟩=S:=⟨_,rfl⟩
    have sS:S.size=R.size:=by rw[←hS,ba_sz,strm_len]
    obtain⟨Y,hY⟩:∃Y:ByteArray,⟨(xorl R.data.toList S.data.toList).toArray⟩=Y:=⟨_,rfl⟩
    have W1:Hid (∀w,Calls Tryz.prog 39 #[.string L,.string K] w fun e w'=>e = .returned (.string X)∧Below w.heap.size w w'):=fun w=>by
     rw[←hX];exact rWith_any L K (by rw[SL.out.1,ks]) (by rw[SL.out.1];decide) w
    have S1:Hid (∀w,Calls Tryz.prog 75 #[.string X,.string z12s,.int .i64 0,.int .i64 (R.size:Int)] w fun e w'=>e = .returned (.string S)∧Below w.heap.size w w'):=fun w=>by
     rw[←hS];exact rStream_any X z12s 0 R.size sX (by show (12:Nat)=12;rfl) (by omega) w
    have W2:Hid (∀w,Calls Tryz.prog 39 #[.string R,.string S] w fun e w'=>e = .returned (.string Y)∧Below w.heap.size w w'):=fun w=>by
     rw[←hY];exact rWith_any R S sS.symm (by omega) w
    have NY:Hid (L.data.toList=(P (q+1)).1∧Y.data.toList=(P (q+1)).2):=by
     have e1:P q=(L.data.toList,R.data.toList):=by rw[I.out.1,I.out.2.1]
     rw[NP.out,e1,stp_even _ _ _ _ (by decide),←hY,←hS,←hX,kd]
     refine⟨rfl,?_⟩
     show xorl R.data.toList (strm (xorl L.data.toList (wkey key.data.toList 0)) z12 0 R.size)=stR (wkey key.data.toList 0) L.data.toList R.data.toList
     unfold stR
     rw[list_sz]
    have CN:=z12_now
    have CB:Hid (∀(b:Nat) (w' w2:World),w'.heap.size=b→Below (w'.alloc (.cells (Array.replicate 12 (.int .u8 0)) 5)).heap.size (w'.alloc (.cells (Array.replicate 12 (.int .u8 0)) 5)) w2→(convert 43 9 (.slice (some ⟨b,0,none⟩) 12 12)).run Tryz.prog w2 = .ok (.string z12s) w2):=fun b w' w2 h h2=>by rw[←h];exact z12_made w' w2 h2
    have MK:=HM.out
    clear hX hS hY sX sS kd ks NP
    go_wp2
    go_quiet (fail)
    have CN1:(convert 43 9 (.slice (some ⟨wr.heap.size,0,none⟩) 12 12)).run Tryz.prog ((wr.drewN (nq+1)).alloc (.cells (Array.replicate 12 (.int .u8 0)) 5)) = .ok (.string z12s) ((wr.drewN (nq+1)).alloc (.cells (Array.replicate 12 (.int .u8 0)) 5)):=z12_now (wr.drewN (nq+1))
    go_wp2
    go_region_with (first|(go_at_call 39;revert W1;intro W1;refine Calls.mono (W1.out _) ?_;rintro e w2 ⟨rfl,hb2⟩;clear W1;(first|(have CV2:=CB.out wr.heap.size (wr.drewN (nq+1)) _ rfl hb2)|skip))|(go_at_call 75;refine Calls.mono (S1.out _) ?_;rintro e w3 ⟨rfl,hb3⟩)|(go_at_call 39;revert W2;intro W2;refine Calls.mono (W2.out _) ?_;rintro e w4 ⟨rfl,hb4⟩;clear W2))
    all_goals
     have B4:Hid (Below w.heap.size w w4):=by
      first
       | exact chain (chain (chain (below_drewN I.out.2.2 _) hb2) hb3) hb4
       | exact chain (chain (Below.alloc (chain (below_drewN I.out.2.2 _) hb2) (Below.size (chain (below_drewN I.out.2.2 _) hb2)) _) hb3) hb4
       | exact chain (chain (chain (Below.alloc (below_drewN I.out.2.2 _) (Below.size (below_drewN I.out.2.2 _)) _) hb2) hb3) hb4
     clear hb2 hb3 hb4
     go_wp2
     go_roundw
     case rel=>exact⟨q+1,L,Y,by omega,by go_num,rfl,rfl,NY.out.1,NY.out.2,B4.out⟩
     case measure=>simp[intOf];omega
   ·rw[show ((1:Nat):Int)=1 from rfl] at cq
    obtain⟨kd,ks⟩:=AK.out 1 (by decide)
    rw[show 32*1=32 from rfl,show 32+32=64 from rfl] at kd ks
    obtain⟨K,hK⟩:∃K,A.extract 32 64=K:=⟨_,rfl⟩
    rw[hK] at kd ks
    obtain⟨S,hS⟩:∃S:ByteArray,⟨(hmac K.data.toList R.data.toList).toArray⟩=S:=⟨_,rfl⟩
    have sS:S.size=32:=by rw[←hS,ba_sz,hmac_len]
    obtain⟨Y,hY⟩:∃Y:ByteArray,⟨(xorl L.data.toList S.data.toList).toArray⟩=Y:=⟨_,rfl⟩
    have T1:Hid (∀w,Calls Tryz.prog 76 #[.string K,.string R] w fun e w'=>e = .returned (.string S)∧Below w.heap.size w w'):=fun w=>by
     rw[←hS];exact rTag_any K R (by show _≤_;rw[ks];decide) (by show _≤_;omega) w
    have W2:Hid (∀w,Calls Tryz.prog 39 #[.string L,.string S] w fun e w'=>e = .returned (.string Y)∧Below w.heap.size w w'):=fun w=>by
     rw[←hY];exact rWith_any L S (by rw[SL.out.1,sS]) (by rw[SL.out.1];decide) w
    have NY:Hid (Y.data.toList=(P (q+1)).1∧R.data.toList=(P (q+1)).2):=by
     have e1:P q=(L.data.toList,R.data.toList):=by rw[I.out.1,I.out.2.1]
     rw[NP.out,e1,stp_odd _ _ _ _ (by decide),←hY,←hS,kd]
     exact⟨rfl,rfl⟩
    clear hS hY sS kd ks NP
    go_wp2
    go_quiet (fail)
    go_wp2_with fail
    refine Calls.mono (T1.out _) ?_
    rintro e w2 ⟨rfl,hb2⟩
    have B2:Hid (Below w.heap.size w w2):=chain (below_drewN I.out.2.2 nq) hb2
    clear hb2 T1
    go_wp2_with fail
    refine Calls.mono (W2.out _) ?_
    rintro e w3 ⟨rfl,hb3⟩
    have B3:Hid (Below w.heap.size w w3):=chain B2.out hb3
    clear hb3 W2
    go_wp2
    go_roundw
    case rel=>exact⟨q+1,Y,R,by omega,by go_num,rfl,rfl,NY.out.1,NY.out.2,B3.out⟩
    case measure=>simp[intOf];omega
   ·rw[show ((2:Nat):Int)=2 from rfl] at cq
    obtain⟨kd,ks⟩:=AK.out 2 (by decide)
    rw[show 32*2=64 from rfl,show 64+32=96 from rfl] at kd ks
    obtain⟨K,hK⟩:∃K,A.extract 64 96=K:=⟨_,rfl⟩
    rw[hK] at kd ks
    obtain⟨X,hX⟩:∃X:ByteArray,⟨(xorl L.data.toList K.data.toList).toArray⟩=X:=⟨_,rfl⟩
    have sX:X.size=32:=by rw[←hX,ba_sz,xorl_len _ _ (by rw[list_sz,list_sz,SL.out.1,ks];exact Nat.le_refl _),list_sz,SL.out.1]
    obtain⟨S,hS⟩:∃S:ByteArray,⟨(strm X.data.toList z12 0 R.size).toArray⟩=S:=⟨_,rfl⟩
    have sS:S.size=R.size:=by rw[←hS,ba_sz,strm_len]
    obtain⟨Y,hY⟩:∃Y:ByteArray,⟨(xorl R.data.toList S.data.toList).toArray⟩=Y:=⟨_,rfl⟩
    have W1:Hid (∀w,Calls Tryz.prog 39 #[.string L,.string K] w fun e w'=>e = .returned (.string X)∧Below w.heap.size w w'):=fun w=>by
     rw[←hX];exact rWith_any L K (by rw[SL.out.1,ks]) (by rw[SL.out.1];decide) w
    have S1:Hid (∀w,Calls Tryz.prog 75 #[.string X,.string z12s,.int .i64 0,.int .i64 (R.size:Int)] w fun e w'=>e = .returned (.string S)∧Below w.heap.size w w'):=fun w=>by
     rw[←hS];exact rStream_any X z12s 0 R.size sX (by show (12:Nat)=12;rfl) (by omega) w
    have W2:Hid (∀w,Calls Tryz.prog 39 #[.string R,.string S] w fun e w'=>e = .returned (.string Y)∧Below w.heap.size w w'):=fun w=>by
     rw[←hY];exact rWith_any R S sS.symm (by omega) w
    have NY:Hid (L.data.toList=(P (q+1)).1∧Y.data.toList=(P (q+1)).2):=by
     have e1:P q=(L.data.toList,R.data.toList):=by rw[I.out.1,I.out.2.1]
     rw[NP.out,e1,stp_even _ _ _ _ (by decide),←hY,←hS,←hX,kd]
     refine⟨rfl,?_⟩
     show xorl R.data.toList (strm (xorl L.data.toList (wkey key.data.toList 2)) z12 0 R.size)=stR (wkey key.data.toList 2) L.data.toList R.data.toList
     unfold stR
     rw[list_sz]
    have CN:=z12_now
    have CB:Hid (∀(b:Nat) (w' w2:World),w'.heap.size=b→Below (w'.alloc (.cells (Array.replicate 12 (.int .u8 0)) 5)).heap.size (w'.alloc (.cells (Array.replicate 12 (.int .u8 0)) 5)) w2→(convert 43 9 (.slice (some ⟨b,0,none⟩) 12 12)).run Tryz.prog w2 = .ok (.string z12s) w2):=fun b w' w2 h h2=>by rw[←h];exact z12_made w' w2 h2
    have MK:=HM.out
    clear hX hS hY sX sS kd ks NP
    go_wp2
    go_quiet (fail)
    have CN1:(convert 43 9 (.slice (some ⟨wr.heap.size,0,none⟩) 12 12)).run Tryz.prog ((wr.drewN (nq+1)).alloc (.cells (Array.replicate 12 (.int .u8 0)) 5)) = .ok (.string z12s) ((wr.drewN (nq+1)).alloc (.cells (Array.replicate 12 (.int .u8 0)) 5)):=z12_now (wr.drewN (nq+1))
    go_wp2
    go_region_with (first|(go_at_call 39;revert W1;intro W1;refine Calls.mono (W1.out _) ?_;rintro e w2 ⟨rfl,hb2⟩;clear W1;(first|(have CV2:=CB.out wr.heap.size (wr.drewN (nq+1)) _ rfl hb2)|skip))|(go_at_call 75;refine Calls.mono (S1.out _) ?_;rintro e w3 ⟨rfl,hb3⟩)|(go_at_call 39;revert W2;intro W2;refine Calls.mono (W2.out _) ?_;rintro e w4 ⟨rfl,hb4⟩;clear W2))
    all_goals
     have B4:Hid (Below w.heap.size w w4):=by
      first
       | exact chain (chain (chain (below_drewN I.out.2.2 _) hb2) hb3) hb4
       | exact chain (chain (Below.alloc (chain (below_drewN I.out.2.2 _) hb2) (Below.size (chain (below_drewN I.out.2.2 _) hb2)) _) hb3) hb4
       | exact chain (chain (chain (Below.alloc (below_drewN I.out.2.2 _) (Below.size (below_drewN I.out.2.2 _)) _) hb2) hb3) hb4
     clear hb2 hb3 hb4
     go_wp2
     go_roundw
     case rel=>exact⟨q+1,L,Y,by omega,by go_num,rfl,rfl,NY.out.1,NY.out.2,B4.out⟩
     case measure=>simp[intOf];omega
   ·rw[show ((3:Nat):Int)=3 from rfl] at cq
    obtain⟨kd,ks⟩:=AK.out 3 (by decide)
    rw[show 32*3=96 from rfl,show 96+32=128 from rfl] at kd ks
    obtain⟨K,hK⟩:∃K,A.extract 96 128=K:=⟨_,rfl⟩
    rw[hK] at kd ks
    obtain⟨S,hS⟩:∃S:ByteArray,⟨(hmac K.data.toList R.data.toList).toArray⟩=S:=⟨_,rfl⟩
    have sS:S.size=32:=by rw[←hS,ba_sz,hmac_len]
    obtain⟨Y,hY⟩:∃Y:ByteArray,⟨(xorl L.data.toList S.data.toList).toArray⟩=Y:=⟨_,rfl⟩
    have T1:Hid (∀w,Calls Tryz.prog 76 #[.string K,.string R] w fun e w'=>e = .returned (.string S)∧Below w.heap.size w w'):=fun w=>by
     rw[←hS];exact rTag_any K R (by show _≤_;rw[ks];decide) (by show _≤_;omega) w
    have W2:Hid (∀w,Calls Tryz.prog 39 #[.string L,.string S] w fun e w'=>e = .returned (.string Y)∧Below w.heap.size w w'):=fun w=>by
     rw[←hY];exact rWith_any L S (by rw[SL.out.1,sS]) (by rw[SL.out.1];decide) w
    have NY:Hid (Y.data.toList=(P (q+1)).1∧R.data.toList=(P (q+1)).2):=by
     have e1:P q=(L.data.toList,R.data.toList):=by rw[I.out.1,I.out.2.1]
     rw[NP.out,e1,stp_odd _ _ _ _ (by decide),←hY,←hS,kd]
     exact⟨rfl,rfl⟩
    clear hS hY sS kd ks NP
    go_wp2
    go_quiet (fail)
    go_wp2_with fail
    refine Calls.mono (T1.out _) ?_
    rintro e w2 ⟨rfl,hb2⟩
    have B2:Hid (Below w.heap.size w w2):=chain (below_drewN I.out.2.2 nq) hb2
    clear hb2 T1
    go_wp2_with fail
    refine Calls.mono (W2.out _) ?_
    rintro e w3 ⟨rfl,hb3⟩
    have B3:Hid (Below w.heap.size w w3):=chain B2.out hb3
    clear hb3 W2
    go_wp2
    go_roundw
    case rel=>exact⟨q+1,Y,R,by omega,by go_num,rfl,rfl,NY.out.1,NY.out.2,B3.out⟩
    case measure=>simp[intOf];omega
end Go.Proofs.YtgnkkjknngblbaaGreatDoor
namespace Go.Proofs.YtgnkkjknngblbaaGreatDoor
open Go.RowKit Go.Proofs.Fd Go.Proofs.Hs Go.Proofs.Cc Go.Proofs.Wd
set_option maxRecDepth 20000
theorem steps_at (w:World) (a b c d:Nat):∀q,q < 4→(w.alloc (.cells #[.int .i64 (a:Int),.int .i64 (b:Int),.int .i64 (c:Int),.int .i64 (d:Int)] 3)).cell? ⟨w.heap.size,q,none⟩=some (.int .i64 (([a,b,c,d]:List Nat).getD q 0:Int)):=fun q hq=>by
 rw[World.cell?_alloc_new]
 rcases (by omega:q=0∨q=1∨q=2∨q=3) with rfl|rfl|rfl|rfl <;> rfl
set_option maxHeartbeats 400000 in
theorem rOpen_no (key block:ByteArray) (h:wmay (block.size:Int)≠0) (w:World) :
  Calls Tryz.prog 25 #[.string key,.string block] w fun e w'=>e = .returned (.tuple #[.string ⟨#[]⟩,.int .i64 (wmay (block.size:Int))])∧Below w.heap.size w w':=by
 have WM:Hid (∀w,Calls Tryz.prog 44 #[.int .i64 (block.size:Int)] w fun e w'=>e = .returned (.int .i64 (wmay (block.size:Int)))∧w'=w):=rwmay_any _
 generalize wmay (block.size:Int)=m at *
 go_enter Tryz.func25, Tryz.ntmps25
 go_wp2_with fail
 refine Calls.mono (WM.out _) ?_
 rintro e w1 ⟨rfl,rfl⟩
 go_wp2
 go_ret2
 exact⟨rfl,Below.refl _ _⟩
set_option maxHeartbeats 400000 in
theorem rOpen_ok (key block:ByteArray) (h0:64≤block.size) (h1:block.size≤8192) (hk:Hid (key.size+64≤140737488355328)) (w:World) :
  Calls Tryz.prog 25 #[.string key,.string block] w fun e w'=>e = .returned (.tuple #[.string ⟨(openl key.data.toList block.data.toList).toArray⟩,.int .i64 0])∧Below w.heap.size w w':=by
 have WM:Hid (∀w,Calls Tryz.prog 44 #[.int .i64 (block.size:Int)] w fun e w'=>e = .returned (.int .i64 0)∧w'=w):=fun w=>by
  have:=rwmay_any (block.size:Int) w
  rw[wmay_ok _ (by omega) (by omega)] at this
  exact this
 have TR:Hid (Calls Tryz.prog 46 #[.string key,.string block,.slice (some ⟨w.heap.size,0,none⟩) 4 4] (w.alloc (.cells #[.int .i64 3,.int .i64 2,.int .i64 1,.int .i64 0] 3)) fun e w'=>e = .returned (.string ⟨(openl key.data.toList block.data.toList).toArray⟩)∧Below (w.alloc (.cells #[.int .i64 3,.int .i64 2,.int .i64 1,.int .i64 0] 3)).heap.size (w.alloc (.cells #[.int .i64 3,.int .i64 2,.int .i64 1,.int .i64 0] 3)) w') :=
  rturned_any key block [3,2,1,0] w.heap.size 4 ⟨rfl,by decide⟩ h0 h1 hk _ (steps_at w 3 2 1 0)
 generalize (⟨(openl key.data.toList block.data.toList).toArray⟩:ByteArray)=X at *
 go_enter Tryz.func25, Tryz.ntmps25
 go_wp2_with fail
 refine Calls.mono (WM.out _) ?_
 rintro e w1 ⟨rfl,hw1⟩
 have hw2:=hw1.symm
 subst hw2
 go_wp2_with fail
 refine Calls.mono TR.out ?_
 rintro e w2 ⟨rfl,hb2⟩
 have B2:Hid (Below w.heap.size w w2):=chain ((Below.refl _ _).alloc (Nat.le_refl _) _) hb2
 clear hb2 TR
 go_wp2
 go_ret2
 exact⟨rfl,B2.out⟩
theorem rOpen_all (k b:ByteArray) (hk:Hid (k.size+64≤140737488355328)) (w:World) :
  Calls Tryz.prog 25 #[.string k,.string b] w fun e w'=>e = .returned (.tuple (opV k b))∧Below w.heap.size w w':=by
 by_cases h:wmay (b.size:Int)=0
 ·obtain⟨h0,h1⟩:=wmay_zero _ h
  rw[opV_ok k b (by omega) (by omega)]
  exact rOpen_ok k b (by omega) (by omega) hk w
 ·rw[opV_no k b h]
  exact rOpen_no k b h w
end Go.Proofs.YtgnkkjknngblbaaGreatDoor
