/- The program's wide layer: texts wrapped and unwrapped: its contracts hold. -/
import Derived.Test.YtgnkkjknngblbaaGreatDoorZmG34
namespace Go.Proofs.YtgnkkjknngblbaaGreatDoor
open Go.RowKit Go.Proofs.Fd Go.Proofs.Hs Go.Proofs.Cc Go.Proofs.Wd
set_option maxRecDepth 20000
set_option maxHeartbeats 1000000 in
theorem Wrap_no (key t:ByteArray) (n:Int) (h:Hid (wmay n≠0)) (w:World) :
  Calls Tryz.prog 70 #[.string key,.string t,.int .i64 n] w fun e w'=>e = .returned (.tuple #[.string ⟨#[]⟩,.int .i64 (wmay n)])∧Below w.heap.size w w':=by
 have WR:Hid (∀w,Calls Tryz.prog 88 #[.int .i64 n] w fun e w'=>e = .returned (.int .i64 (wmay n))∧w'=w):=fun w=>wrong_any n w
 obtain⟨e0,he⟩:∃e0,wmay n=e0:=⟨_,rfl⟩
 rw[he] at WR h ⊢
 have hne:¬e0=0:=h.out
 clear he h
 go_enter Tryz.func70, Tryz.ntmps70
 go_wp2_with fail
 refine Calls.mono (WR.out _) ?_
 rintro e w1 ⟨rfl,hw1⟩
 have hw2:=hw1.symm
 subst hw2
 clear WR hw1
 go_wp2
 go_ret2
 exact⟨rfl,Below.refl _ _⟩
set_option maxHeartbeats 1000000 in
theorem Wrap_long (key t:ByteArray) (n:Nat) (h0:64≤n) (h1:n≤8192) (ht:n < t.size+34) (w:World) :
  Calls Tryz.prog 70 #[.string key,.string t,.int .i64 (n:Int)] w fun e w'=>e = .returned (.tuple #[.string ⟨#[]⟩,.int .i64 2])∧Below w.heap.size w w':=by
 have WR:Hid (∀w,Calls Tryz.prog 88 #[.int .i64 (n:Int)] w fun e w'=>e = .returned (.int .i64 0)∧w'=w):=fun w=>by
  have h:=wrong_any (n:Int) w
  rw[wmay_ok _ (by omega) (by omega)] at h
  exact h
 have g1:(n:Int) - 34 < (t.size:Int):=by omega
 have g2:IntKind.i64.wrap ((n:Int) - 34)=(n:Int) - 34:=by rw[IntKind.wrap_i64];omega
 go_enter Tryz.func70, Tryz.ntmps70
 go_wp2_with fail
 refine Calls.mono (WR.out _) ?_
 rintro e w1 ⟨rfl,hw1⟩
 have hw2:=hw1.symm
 subst hw2
 clear WR hw1
 go_wp2
 go_ret2
 exact⟨rfl,Below.refl _ _⟩
set_option maxHeartbeats 1000000 in
theorem Wrap_ok (key t:ByteArray) (n:Nat) (h0:64≤n) (h1:n≤8192) (ht:t.size+34≤n) (hk:Hid (key.size+64≤140737488355328)) (w:World) (hK:Hid (Kh w)) :
  Calls Tryz.prog 70 #[.string key,.string t,.int .i64 (n:Int)] w fun e w'=>e = .returned (.tuple #[.string ⟨(shutl key.data.toList (plainl t.data.toList n)).toArray⟩,.int .i64 0])∧Below w.heap.size w w':=by
 have WR:Hid (∀w,Calls Tryz.prog 88 #[.int .i64 (n:Int)] w fun e w'=>e = .returned (.int .i64 0)∧w'=w):=fun w=>by
  have h:=wrong_any (n:Int) w
  rw[wmay_ok _ (by omega) (by omega)] at h
  exact h
 obtain⟨P,hP⟩:∃P:ByteArray,P=⟨(plainl t.data.toList n).toArray⟩:=⟨_,rfl⟩
 have lp:(plainl t.data.toList n).length=n:=plainl_len _ _ (by rw[list_sz];exact ht)
 obtain⟨X,hX⟩:∃X:ByteArray,⟨(shutl key.data.toList (plainl t.data.toList n)).toArray⟩=X:=⟨_,rfl⟩
 have SH:Hid (∀w,Kh w→Calls Tryz.prog 71 #[.string key,.string P] w fun e w'=>e = .returned (.tuple #[.string X,.int .i64 0])∧Below w.heap.size w w'):=fun w h=>by
  have sP:P.size=n:=by rw[hP,ba_sz,lp]
  have:=Shut_ok key P (by omega) (by omega) hk w h
  rw[hP] at this ⊢
  rw[←hX]
  exact this
 rw[hX]
 obtain⟨A,E,F,CA,⟨v32,c32,f32⟩,⟨v33,c33,f33⟩,hE,CP,BF,bF⟩:=laid_plain t ((t.size:Int) % 256) rfl n w h0 ht h1
 have CF:(convert 43 9 (.slice (some ⟨w.heap.size,0,none⟩) n n)).run Tryz.prog F = .ok (.string P) F:=by
  rw[hP];exact BF.string (cap:=n) lp
 have BF1:Hid (Below w.heap.size w F∧Kh F):=⟨bF,hK.out.later bF⟩
 have g1:¬(n:Int) - 34 < (t.size:Int):=by omega
 have g2:IntKind.i64.wrap ((n:Int) - 34)=(n:Int) - 34:=by rw[IntKind.wrap_i64];omega
 have z1:(32:Int) < (n:Int):=by omega
 have z2:(33:Int) < (n:Int):=by omega
 have z3:(34:Int)≤(n:Int):=by omega
 have z4:¬n=34:=by omega
 have z5:¬n≤34:=by omega
 have z6:IntKind.u8.wrap ((t.size:Int) / 256)=(t.size:Int) / 256:=by rw[IntKind.wrap_u8];omega
 have z7:IntKind.u8.wrap (t.size:Int)=(t.size:Int) % 256:=by rw[IntKind.wrap_u8]
 have z8:(t.size:Int) / 256 % 256=(t.size:Int) / 256:=by omega
 clear hX hP lp BF bF
 go_enter Tryz.func70, Tryz.ntmps70
 go_wp2_with fail
 refine Calls.mono (WR.out _) ?_
 rintro e w1 ⟨rfl,hw1⟩
 have hw2:=hw1.symm
 subst hw2
 clear WR hw1
 go_wp2_with fail
 refine Calls.mono (SH.out _ BF1.out.2) ?_
 rintro e w2 ⟨rfl,hb2⟩
 have B2:Hid (Below w.heap.size w w2):=chain BF1.out.1 hb2
 clear hb2 SH CP CA CF c32 f32 c33 f33 hE
 go_wp2
 go_ret2
 exact⟨rfl,B2.out⟩
theorem wrap_c:WrapC:=fun k t n w hk _ hK=>by
 by_cases h:wmay n=0
 ·obtain⟨h1,h2⟩:=wmay_zero _ h
  obtain⟨m,rfl⟩:∃m:Nat,n=(m:Int):=⟨n.toNat,by omega⟩
  by_cases ht:t.size+34≤m
  ·rw[wrV_ok k t m (by omega) (by omega) ht]
   exact Wrap_ok k t m (by omega) (by omega) ht hk w hK
  ·unfold wrV
   rw[if_pos h,if_pos (by omega)]
   exact Wrap_long k t m (by omega) (by omega) (by omega) w
 ·unfold wrV
  rw[if_neg h]
  exact Wrap_no k t n h w
set_option maxHeartbeats 1000000 in
theorem Unwrap_no (key b:ByteArray) (h:Hid (wmay (b.size:Int)≠0)) (w:World) :
  Calls Tryz.prog 57 #[.string key,.string b] w fun e w'=>e = .returned (.tuple #[.string ⟨#[]⟩,.int .i64 (wmay (b.size:Int))])∧Below w.heap.size w w':=by
 have OP:Hid (∀w,Calls Tryz.prog 56 #[.string key,.string b] w fun e w'=>e = .returned (.tuple #[.string ⟨#[]⟩,.int .i64 (wmay (b.size:Int))])∧Below w.heap.size w w'):=fun w=>Open_no key b h w
 obtain⟨e0,he⟩:∃e0,wmay (b.size:Int)=e0:=⟨_,rfl⟩
 rw[he] at OP h ⊢
 have hne:¬e0=0:=h.out
 clear he h
 go_enter Tryz.func57, Tryz.ntmps57
 go_wp2_with fail
 refine Calls.mono (OP.out _) ?_
 rintro e w1 ⟨rfl,hb1⟩
 have B1:Hid (Below w.heap.size w w1):=hb1
 clear OP hb1
 go_wp2
 go_ret2
 exact⟨rfl,B1.out⟩
theorem ba_cut2 (x:ByteArray) (a b:Nat):(x.extract a b).data.toList=(x.data.toList.drop a).take (b - a):=by
 have e:x=⟨x.data.toList.toArray⟩:=ba_of rfl
 rw[e,ba_cut]
theorem text_cases (X:ByteArray) (c d:UInt8) (p:Nat) (hc:X.data.toList.getD 32 0=c) (hd:X.data.toList.getD 33 0=d) (hp:34+c.toNat*256+d.toNat=p) :
  ((X.extract 0 32).data.toList.all (· == 0)=false→textl X.data.toList=none)∧(X.size < p→textl X.data.toList=none)∧((X.extract p X.size).data.toList.all (· == 0)=false→p≤X.size→textl X.data.toList=none)
  ∧ ((X.extract 0 32).data.toList.all (· == 0)=true→p≤X.size→(X.extract p X.size).data.toList.all (· == 0)=true→textl X.data.toList=some (X.extract 34 p).data.toList):=by
 have hl:X.data.toList.length=X.size:=list_sz X
 have ht:34+told X.data.toList=p:=by unfold told;rw[hc,hd];omega
 have e1:(X.extract 0 32).data.toList=X.data.toList.take 32:=by rw[ba_cut2];simp
 have e2:(X.extract p X.size).data.toList=X.data.toList.drop (34+told X.data.toList):=by
  rw[ba_cut2,ht,List.take_of_length_le (by rw[List.length_drop,hl];exact Nat.le_refl _)]
 have e3:(X.extract 34 p).data.toList=(X.data.toList.drop 34).take (told X.data.toList):=by
  rw[ba_cut2,←ht,show 34+told X.data.toList - 34=told X.data.toList by omega]
 rw[e1,e2,e3]
 unfold textl
 refine⟨fun h=>if_neg fun g => ?_,fun h=>if_neg fun g => ?_,fun h _=>if_neg fun g => ?_,fun h1 h2 h3=>if_pos ⟨h1,by omega,h3⟩⟩
 ·rw[h] at g;exact absurd g.1 (by decide)
 ·have:=g.2.1;omega
 ·rw[h] at g;exact absurd g.2.2 (by decide)
set_option maxHeartbeats 1000000 in
theorem Unwrap_ok (key b:ByteArray) (hb:64≤b.size) (hb2:b.size≤8192) (hk:Hid (key.size+64≤140737488355328)) (w:World) (hK:Hid (Kh w)) :
  Calls Tryz.prog 57 #[.string key,.string b] w fun e w'=>e = .returned (.tuple (uwV key b))∧Below w.heap.size w w':=by
 obtain⟨X,hX⟩:∃X:ByteArray,⟨(openl key.data.toList b.data.toList).toArray⟩=X:=⟨_,rfl⟩
 have sX:X.size=b.size:=by rw[←hX,ba_sz,openl_len _ _ (by rw[list_sz];omega),list_sz]
 have dX:openl key.data.toList b.data.toList=X.data.toList:=by rw[←hX]
 have OP:Hid (∀w,Kh w→Calls Tryz.prog 56 #[.string key,.string b] w fun e w'=>e = .returned (.tuple #[.string X,.int .i64 0])∧Below w.heap.size w w'):=fun w h=>by
  rw[←hX];exact Open_ok key b hb hb2 hk w h
 have BL:Hid (∀(s:ByteArray) (w:World),s.size≤8192→Calls Tryz.prog 92 #[.string s] w fun e w'=>e = .returned (.bool (s.data.toList.all (· == 0)))∧w'=w):=fun s w h=>blank_any s (by omega) w
 have UW:Hid ((∀t,textl X.data.toList=some t→uwV key b=#[.string ⟨t.toArray⟩,.int .i64 0])∧(textl X.data.toList=none→uwV key b=#[.string ⟨#[]⟩,.int .i64 90])):=by
  rw[←dX]
  exact⟨fun t h=>uwV_some key b t hb hb2 h,fun h=>uwV_none key b hb hb2 h⟩
 clear hX dX
 have l32:32 < X.size:=by omega
 have l33:33 < X.size:=by omega
 obtain⟨c,hc⟩:∃c,X[32]=c:=⟨_,rfl⟩
 obtain⟨d,hd⟩:∃d,X[33]=d:=⟨_,rfl⟩
 obtain⟨p,hp⟩:∃p,34+c.toNat*256+d.toNat=p:=⟨_,rfl⟩
 have TC:Hid (_∧_):=text_cases X c d p (by rw[List.getD_eq_getElem?_getD,List.getElem?_eq_getElem (by simpa using l32),←hc];rfl) (by rw[List.getD_eq_getElem?_getD,List.getElem?_eq_getElem (by simpa using l33),←hd];rfl) hp
 have z32:(32:Int) < (X.size:Int):=by omega
 have z33:(33:Int) < (X.size:Int):=by omega
 have pz:34+(c.toNat:Int)*256+(d.toNat:Int)=(p:Int):=by omega
 have SX:Hid (64≤X.size∧X.size≤8192):=by show _∧_;omega
 go_enter Tryz.func57, Tryz.ntmps57
 go_wp2_with fail
 refine Calls.mono (OP.out _ hK.out) ?_
 rintro e w1 ⟨rfl,hb1⟩
 have B1:Hid (Below w.heap.size w w1):=hb1
 clear OP hb1
 go_wp2_with fail
 go_quiet (fail)
 have B2:Hid (Below w.heap.size w (w1.drewN nq)):=below_drewN B1.out nq
 clear B1
 have EQ:wrap64 (wrap64 (34+wrap64 (wrap64 (c.toNat:Int)*256))+wrap64 (d.toNat:Int))=(p:Int):=by
  have:=c.toNat_lt
  have:=d.toNat_lt
  unfold wrap64
  omega
 go_wp2_with fail
 rw[EQ]
 clear EQ
 have sE:∀a e,(X.extract a e).size≤8192:=fun a e=>by rw[ByteArray.size_extract];have:=SX.out;omega
 obtain⟨v1,q1⟩:∃v,(X.extract 0 32).data.toList.all (fun x=>x == 0)=v:=⟨_,rfl⟩
 obtain⟨v2,q2⟩:∃v,(X.extract p X.size).data.toList.all (fun x=>x == 0)=v:=⟨_,rfl⟩
 have BA:Hid (∀w,Calls Tryz.prog 92 #[.string (X.extract 0 32)] w fun e w'=>e = .returned (.bool v1)∧w'=w):=fun w=>by rw[←q1];exact BL.out _ w (sE _ _)
 have BB:Hid (∀w,Calls Tryz.prog 92 #[.string (X.extract p X.size)] w fun e w'=>e = .returned (.bool v2)∧w'=w):=fun w=>by rw[←q2];exact BL.out _ w (sE _ _)
 have TD:Hid ((v1=false→textl X.data.toList=none)∧(X.size < p→textl X.data.toList=none)∧(v2=false→p≤X.size→textl X.data.toList=none)∧(v1=true→p≤X.size→v2=true→textl X.data.toList=some (X.extract 34 p).data.toList)):=by
  rw[←q1,←q2];exact TC.out
 clear q1 q2 sE BL TC sX
 refine Calls.mono (BA.out _) ?_
 rintro e w2 ⟨rfl,rfl⟩
 have s1:34≤p:=by omega
 have s2:(34:Int)≤(p:Int):=by omega
 have s3:(X.size:Int)≤8192:=by have:=SX.out;omega
 clear hc hd pz hp
 cases v1 with
 | false =>
  have E:Hid (uwV key b=_):=UW.out.2 (TD.out.1 rfl)
  go_wp2
  go_ret2
  exact⟨by rw[E.out];rfl,B2.out⟩
 | true =>
  by_cases hp:p≤X.size
  ·have g1:¬(X.size:Int) < (p:Int):=by omega
   have g2:(p:Int)≤(X.size:Int):=by omega
   go_wp2_with fail
   refine Calls.mono (BB.out _) ?_
   rintro e w2 ⟨rfl,rfl⟩
   cases v2 with
   | false =>
    have E:Hid (uwV key b=_):=UW.out.2 (TD.out.2.2.1 rfl hp)
    go_wp2
    go_ret2
    exact⟨by rw[E.out];rfl,B2.out⟩
   | true =>
    have E:Hid (uwV key b=#[.string (X.extract 34 p),.int .i64 0]):=UW.out.1 _ (TD.out.2.2.2 (by simp) hp (by simp))
    go_wp2
    go_ret2
    exact⟨by rw[E.out];rfl,B2.out⟩
  ·have g1:(X.size:Int) < (p:Int):=by omega
   have E:Hid (uwV key b=_):=UW.out.2 (TD.out.2.1 (by omega))
   go_wp2
   go_ret2
   exact⟨by rw[E.out];rfl,B2.out⟩
theorem unwrap_c:UnwrapC:=fun k b w hk _ hK=>by
 by_cases h:wmay (b.size:Int)=0
 ·obtain⟨h1,h2⟩:=wmay_zero _ h
  exact Unwrap_ok k b (by omega) (by omega) hk w hK
 ·unfold uwV
  rw[if_neg h]
  exact Unwrap_no k b h w
end Go.Proofs.YtgnkkjknngblbaaGreatDoor
