/- Parts: LzA,LzB,BxM,BxN. -/
import Derived.Test.YtjpaodepnacimaaGreatDoorZdG20
import Derived.Test.YtjpaodepnacimaaGreatDoorZdG11
namespace Go.Proofs.YtjpaodepnacimaaGreatDoor
open Go.RowKit Go.Proofs.Fd Go.Proofs.Dk Go.Proofs.Lg
set_option maxRecDepth 20000
theorem bgn_len (s:St) (k H g:Nat) (ts:List Bs):(bgn s k H g ts).2.l.length≤s.l.length+H+sns ts+1:=by
 unfold bgn
 have c:=cln_len s k H
 by_cases h1:(cln s k H).1=0
 ·rw[thn_ok h1]
  have p:=pts_len ts (cln s k H).2 k 1 (hm g)
  by_cases h2:(pts (cln s k H).2 k 1 (hm g) ts).1=0
  ·rw[thn_ok h2]
   have q:=syS_len (pts (cln s k H).2 k 1 (hm g) ts).2
   by_cases h3:syE (pts (cln s k H).2 k 1 (hm g) ts).2=0
   ·rw[thn_ok h3]
    have r:=wrb_len (syS (pts (cln s k H).2 k 1 (hm g) ts).2) k (hd g)
    rw[hd_len] at r
    by_cases h4:(wrb (syS (pts (cln s k H).2 k 1 (hm g) ts).2) k (hd g)).1=0
    ·rw[thn_ok h4]
     have t:=syS_len (wrb (syS (pts (cln s k H).2 k 1 (hm g) ts).2) k (hd g)).2
     show (syS _).l.length≤_
     omega
    ·rw[thn_no h4];omega
   ·rw[thn_no h3]
    show (syS _).l.length≤_
    omega
  ·rw[thn_no h2];omega
 ·rw[thn_no h1];omega
theorem app_len (s:St) (x:Lo) (t:Bs):(app s x t).1.2.l.length≤s.l.length+40∧(app s x t).1.2.n=s.n:=by
 unfold app
 by_cases h1:may t≠0
 ·rw[if_pos h1];exact⟨Nat.le_add_right _ _,rfl⟩
 ·rw[if_neg h1]
  by_cases h2:s.n / 2 < x.tk+sn t
  ·rw[if_pos h2];exact⟨Nat.le_add_right _ _,rfl⟩
  ·rw[if_neg h2]
   have r:=wrb_len s (x.h*(s.n / 2)+x.tk) (rcd x.mr t)
   rw[rcd_len] at r
   have hok:=may_ok (by simpa using h1)
   have hsn:sn t≤40:=by unfold sn;omega
   exact⟨by show (wrb _ _ _).2.l.length≤_;omega,wrb_n _ _ _⟩
theorem cmp_len (s:St) (x:Lo) (ts:List Bs):(cmp s x ts).1.2.l.length≤s.l.length+s.n+1∧(cmp s x ts).1.2.n=s.n:=by
 unfold cmp
 by_cases h1:mays ts≠0
 ·rw[if_pos h1];exact⟨by show s.l.length≤_;omega,rfl⟩
 ·rw[if_neg h1]
  by_cases h2:s.n / 2 - 1 < sns ts
  ·rw[if_pos h2];exact⟨by show s.l.length≤_;omega,rfl⟩
  ·rw[if_neg h2]
   by_cases h3:2147483647≤x.g
   ·rw[if_pos h3];exact⟨by show s.l.length≤_;omega,rfl⟩
   ·rw[if_neg h3]
    have:=bgn_len s ((1 - x.h)*(s.n / 2)) (s.n / 2) (x.g+1) ts
    exact⟨by show (bgn _ _ _ _ _).2.l.length≤_;omega,bgn_n _ _ _ _ _⟩
theorem wrE_151 (s:St) (k:Int) (t:Bs):wrE s k t≠151:=by
 unfold wrE rch
 repeat' split
 all_goals decide
theorem wrs_151:∀(bs:List Bs) (s:St) (k:Nat),(wrs s k bs).1≠151
 | [],_,_=>by show (0:Int)≠151;decide
 | b::bs,s,k=>by
  rw[wrs]
  by_cases h:wrE s (k:Int) b=0
  ·rw[thn_ok h]
   exact wrs_151 bs _ _
  ·rw[thn_no h]
   exact wrE_151 _ _ _
theorem app_151 {s:St} {x:Lo} {r:Bs} (h:(app s x r).1.1=151):app s x r=((151,s),x):=by
 unfold app at h ⊢
 by_cases h1:may r≠0
 ·rw[if_pos h1] at h
  exfalso
  revert h
  show may r=151→False
  unfold may
  repeat' split
  all_goals decide
 ·rw[if_neg h1] at h ⊢
  by_cases h2:s.n / 2 < x.tk+sn r
  ·rw[if_pos h2]
  ·rw[if_neg h2] at h
   exact absurd h (wrs_151 _ _ _)
theorem rben4 (n:Nat):ben n 4=[UInt8.ofNat (n / 16777216),UInt8.ofNat (n / 65536),UInt8.ofNat (n / 256),UInt8.ofNat n]:=by
 show [UInt8.ofNat (n / 2 ^ 24),UInt8.ofNat (n / 2 ^ 16),UInt8.ofNat (n / 2 ^ 8),UInt8.ofNat (n / 2 ^ 0)]=_
 rw[show n / 2 ^ 0=n by simp]
structure Lz (w wr:World) (p:Nat) (F:Nat→Prop) (s:St) (q:Nat) (v:Value) (x:Lo):Prop where
 hd_:HD w wr p F s q (x.h*(s.n / 2)) (s.n / 2) x.g v x.ts x.tk x.mr []
 h1:x.h≤1
 n4:4≤s.n
 n2:s.n≤1024
 tk:x.tk≤s.n / 2
 ok:∀t∈x.ts,1≤t.length∧t.length≤2000
 g:x.g≤2147483647
section
variable {w wr:World} {p:Nat} {F:Nat→Prop} {s:St} {q:Nat} {v:Value} {x:Lo}
theorem Lz.later (h:Lz w wr p F s q v x) {w':World} (hb:Below wr.heap.size wr w'):Lz w w' p F s q v x:=⟨h.hd_.later hb,h.h1,h.n4,h.n2,h.tk,h.ok,h.g⟩
theorem Lz.tlen (h:Lz w wr p F s q v x):x.ts.length≤512:=by
 have h1:=tkn_ge_len x.ts
 have h2:tkn 1 x.ts≤s.n / 2:=h.tk
 have h3:=h.n2
 omega
theorem Lz.fh (h:Lz w wr p F s q v x) {y:Nat} (hy:FH F q v y):y < wr.heap.size∧w.heap.size≤y:=by
 rcases hy with e|e
 ·exact⟨h.hd_.dl.at_.lt e,h.hd_.dl.new y e⟩
 ·exact⟨h.hd_.hf.lt e,(h.hd_.ap y e).2⟩
theorem Lz.other (h:Lz w wr p F s q v x) {w':World} {G:Nat→Prop} (hb:Bf G wr w') (hG:∀y,FH F q v y→¬G y) (hw:∀y,G y→w.heap.size≤y):Lz w w' p F s q v x :=
 ⟨⟨⟨h.hd_.dl.at_.other hb (fun y hy=>hG y (.inl hy)),h.hd_.dl.new,h.hd_.dl.below.trans (hb.below hw h.hd_.dl.below.size)⟩,h.hd_.hf.bf hb (fun y hy=>hG y (.inr hy)),h.hd_.ap⟩,h.h1,h.n4,h.n2,h.tk,h.ok,h.g⟩
theorem Lz.fr (h:Lz w wr p F s q v x):x.h*(s.n / 2)≤512:=by
 have:=h.n2
 rcases (by have:=h.h1;omega:x.h=0∨x.h=1) with e|e
 ·rw[e,Nat.zero_mul];omega
 ·rw[e,Nat.one_mul];omega
end
def LzP (w wr:World) (p:Nat) (F:Nat→Prop) (q:Nat) (v:Value) (s:St) (x:Lo) (w':World):Prop:=∃F' v',Lz w w' p F' s q v' x∧Nx2 wr F q v F' v'∧Bf (FH F q v) wr w'
theorem lzappend_any (w wr:World) (p:Nat) (F:Nat→Prop) (s:St) (q:Nat) (v:Value) (x:Lo) (X:ByteArray) (hl:s.l.length+100≤1000000) (hk:Kh w) (h:Lz w wr p F s q v x) :
  Calls Tryz.prog 52 #[.pointer (some ⟨q,0,none⟩),.string X] wr fun e w'=>e = .returned (.int .i64 (app s x X.data.toList).1.1)∧LzP w wr p F q v (app s x X.data.toList).1.2 (app s x X.data.toList).2 w':=by
 have hn2:=h.n2
 have hfr:=h.fr
 have e1:(app s x X.data.toList).1=apR s (x.h*(s.n / 2)) (s.n / 2) x.tk x.mr X.data.toList:=by
  unfold app apR
  by_cases h1:may X.data.toList≠0
  ·rw[if_pos h1,if_pos h1]
  ·rw[if_neg h1,if_neg h1]
   by_cases h2:s.n / 2 < x.tk+sn X.data.toList
   ·rw[if_pos h2,if_pos h2]
   ·rw[if_neg h2,if_neg h2]
 have hlen:=app_len s x X.data.toList
 refine (lappend_any w wr p F s q (x.h*(s.n / 2)) (s.n / 2) x.g v x.ts x.tk x.mr X (mks_len _ _ rfl) (by have:=h.tlen;omega) h.tk (by omega) (by omega) hl hk h.hd_).mono ?_
 rintro e w' ⟨he,F',v',n1,b1,hh⟩
 rw[e1]
 refine⟨he,F',v',?_,n1,b1⟩
 rw[e1] at hlen
 obtain⟨t,ht⟩:∃t,X.data.toList=t:=⟨_,rfl⟩
 rw[ht] at e1 hh hlen ⊢
 have hsn:(apR s (x.h*(s.n / 2)) (s.n / 2) x.tk x.mr t).2.n=s.n:=hlen.2
 rcases hh with ⟨c0,hh⟩|⟨c0,hh⟩
 ·have h1:may t=0:=by
   by_cases c:may t=0
   ·exact c
   ·exfalso
    unfold apR at c0
    rw[if_pos c] at c0
    exact c c0
  have h2:¬s.n / 2 < x.tk+sn t:=fun c=>by
   unfold apR at c0
   rw[if_neg (by rw[h1];simp),if_pos c] at c0
   cases c0
  have e2:(app s x t).2=⟨x.h,x.g,x.ts++[t]⟩:=by
   have c0':(wrb s (x.h*(s.n / 2)+x.tk) (rcd x.mr t)).1=0:=by
    unfold apR at c0
    rw[if_neg (by rw[h1];simp),if_neg h2] at c0
    exact c0
   unfold app
   rw[if_neg (by rw[h1];simp),if_neg h2]
   show (if (wrb s (x.h*(s.n / 2)+x.tk) (rcd x.mr t)).1=0 then _ else _)=_
   rw[if_pos c0']
  have et:(⟨x.h,x.g,x.ts++[t]⟩:Lo).tk=x.tk+sn t:=tkn_app x.ts 1 _
  have em:(⟨x.h,x.g,x.ts++[t]⟩:Lo).mr=rmk x.mr t:=mks_app x.ts (hm x.g) _
  rw[e2]
  refine⟨?_,h.h1,by rw[hsn];exact h.n4,by rw[hsn];exact h.n2,by rw[et,hsn];omega,fun u hu => ?_,h.g⟩
  ·rw[et,em,hsn]
   exact hh
  ·rcases List.mem_append.1 hu with hu|hu
   ·exact h.ok u hu
   ·rw[List.mem_singleton] at hu
    subst hu
    exact may_ok h1
 ·have e2:(app s x t).2=x:=by
   unfold app
   by_cases h1:may t≠0
   ·rw[if_pos h1]
   ·rw[if_neg h1]
    by_cases h2:s.n / 2 < x.tk+sn t
    ·rw[if_pos h2]
    ·rw[if_neg h2]
     have c0':(wrb s (x.h*(s.n / 2)+x.tk) (rcd x.mr t)).1≠0:=by
      unfold apR at c0
      rw[if_neg h1,if_neg h2] at c0
      exact c0
     show (if (wrb s (x.h*(s.n / 2)+x.tk) (rcd x.mr t)).1=0 then _ else _)=_
     rw[if_neg c0']
  rw[e2]
  exact⟨by rw[hsn];exact hh,h.h1,by rw[hsn];exact h.n4,by rw[hsn];exact h.n2,by rw[hsn];exact h.tk,h.ok,h.g⟩
theorem lzcompact_any (w wr:World) (p:Nat) (F:Nat→Prop) (s:St) (q:Nat) (v:Value) (x:Lo) (a:Option Addr) (n c:Nat) (us:List Bs) (hn:us.length=n) (hnb:n≤10000000000000) (hl:s.l.length+4000≤1000000) (hk:Kh w) (h:Lz w wr p F s q v x) (tx:TxAt wr a us) (ap:Ap a us F) :
  Calls Tryz.prog 71 #[.pointer (some ⟨q,0,none⟩),.slice a n c] wr fun e w'=>e = .returned (.int .i64 (cmp s x us).1.1)∧LzP w wr p F q v (cmp s x us).1.2 (cmp s x us).2 w':=by
 have hn2:=h.n2
 have hn4:=h.n4
 have h01:x.h=0∨x.h=1:=by have:=h.h1;omega
 have e2:s.n / 2 - x.h*(s.n / 2)=(1 - x.h)*(s.n / 2):=by
  rcases h01 with e|e
  ·rw[e,Nat.zero_mul,Nat.sub_zero,Nat.sub_zero,Nat.one_mul]
  ·rw[e,Nat.one_mul,Nat.sub_self,Nat.sub_self,Nat.zero_mul]
 have e1:(cmp s x us).1=cmR s ((1 - x.h)*(s.n / 2)) (s.n / 2) x.g us:=by
  unfold cmp cmR
  by_cases h1:mays us≠0
  ·rw[if_pos h1,if_pos h1]
  ·rw[if_neg h1,if_neg h1]
   by_cases h2:s.n / 2 - 1 < sns us
   ·rw[if_pos h2,if_pos h2]
   ·rw[if_neg h2,if_neg h2]
    by_cases h3:2147483647≤x.g
    ·rw[if_pos h3,if_pos h3]
    ·rw[if_neg h3,if_neg h3]
 have hlen:=cmp_len s x us
 refine (lcompact_any w wr p F s q (x.h*(s.n / 2)) (s.n / 2) x.g v x.ts x.tk x.mr a n c us hn (by omega) (by omega) (by omega) h.g (by rcases h01 with e|e;exact .inl (by rw[e,Nat.zero_mul]);exact .inr (by rw[e,Nat.one_mul])) (by omega) hk h.hd_ tx ap).mono ?_
 rintro e w' ⟨he,F',v',n1,b1,hh⟩
 rw[e2,←e1] at he hh
 refine⟨he,F',v',?_,n1,b1⟩
 have hsn:(cmp s x us).1.2.n=s.n:=hlen.2
 rcases hh with ⟨c0,hh⟩|⟨c0,hh⟩
 ·have h1:¬mays us≠0:=fun c=>by
   unfold cmp at c0
   rw[if_pos c] at c0
   exact c c0
  have h2:¬s.n / 2 - 1 < sns us:=fun c=>by
   unfold cmp at c0
   rw[if_neg h1,if_pos c] at c0
   cases c0
  have h3:¬2147483647≤x.g:=fun c=>by
   unfold cmp at c0
   rw[if_neg h1,if_neg h2,if_pos c] at c0
   cases c0
  have e3:(cmp s x us).2=⟨1 - x.h,x.g+1,us⟩:=by
   have c0':(bgn s ((1 - x.h)*(s.n / 2)) (s.n / 2) (x.g+1) us).1=0:=by
    unfold cmp at c0
    rw[if_neg h1,if_neg h2,if_neg h3] at c0
    exact c0
   unfold cmp
   rw[if_neg h1,if_neg h2,if_neg h3]
   show (if (bgn s ((1 - x.h)*(s.n / 2)) (s.n / 2) (x.g+1) us).1=0 then _ else _)=_
   rw[if_pos c0']
  rw[e3]
  refine⟨by rw[hsn];exact hh,by show 1 - x.h≤1;omega,by rw[hsn];exact h.n4,by rw[hsn];exact h.n2,?_,mays_all (by simpa using h1),by show x.g+1≤_;omega⟩
  rw[hsn]
  show tkn 1 us≤_
  rw[tkn_sns]
  omega
 ·have e3:(cmp s x us).2=x:=by
   unfold cmp
   by_cases h1:mays us≠0
   ·rw[if_pos h1]
   ·rw[if_neg h1]
    by_cases h2:s.n / 2 - 1 < sns us
    ·rw[if_pos h2]
    ·rw[if_neg h2]
     by_cases h3:2147483647≤x.g
     ·rw[if_pos h3]
     ·rw[if_neg h3]
      have c0':(bgn s ((1 - x.h)*(s.n / 2)) (s.n / 2) (x.g+1) us).1≠0:=by
       unfold cmp at c0
       rw[if_neg h1,if_neg h2,if_neg h3] at c0
       exact c0
      show (if (bgn s ((1 - x.h)*(s.n / 2)) (s.n / 2) (x.g+1) us).1=0 then _ else _)=_
      rw[if_neg c0']
  rw[e3]
  exact⟨by rw[hsn];exact hh,h.h1,by rw[hsn];exact h.n4,by rw[hsn];exact h.n2,by rw[hsn];exact h.tk,h.ok,h.g⟩
theorem lzsync_any (w wr:World) (p:Nat) (F:Nat→Prop) (s:St) (q:Nat) (v:Value) (x:Lo) (hl:s.l.length≤1000000) (h:Lz w wr p F s q v x) :
  Calls Tryz.prog 54 #[.pointer (some ⟨q,0,none⟩)] wr fun e w'=>e = .returned (.int .i64 (syE s))∧LzP w wr p F q v (syS s) x w':=by
 refine (lsyncl_any w wr p F s q _ _ x.g v x.ts x.tk x.mr [] hl h.hd_).mono ?_
 rintro e w' ⟨he,F',d1,d2,d3⟩
 have hn:=syS_n s
 exact⟨he,F',v,⟨by rw[hn];exact h.hd_.disk d1 d2 d3,h.h1,by rw[hn];exact h.n4,by rw[hn];exact h.n2,by rw[hn];exact h.tk,h.ok,h.g⟩,⟨d2,Nx.refl _ _⟩,d3.wide fun _ c => .inl c⟩
theorem lopen_all (w w0:World) (p:Nat) (F0:Nat→Prop) (s:St) (hl:s.l.length+2000≤1000000) (hk:Hid (Kh w)) (D:Hid (Dl w w0 p F0 s)) :
  Calls Tryz.prog 35 #[.pointer (some ⟨p,0,none⟩)] w0 fun e w'=>OpP w w0 p F0 (s.n / 2) (opn s).1 (opn s).2 e w':=by
 by_cases h:s.n / 2 < 2
 ·have e:opn s=((4,s),⟨0,0,[]⟩):=by unfold opn;rw[if_pos h]
  rw[e]
  refine (lopen_small w w0 p F0 s h D).mono ?_
  rintro e w' ⟨he,rfl⟩
  exact⟨F0,D.out,Nx.refl _ _,Bf.refl _ _,.inr ⟨(show (4:Int)≠0 by decide),he⟩⟩
 ·exact lopen_any w w0 p F0 s (by omega) hl hk D
theorem opn_ok {s:St} (h:(opn s).1.1=0) (hOk:Ok s):4≤s.n∧(opn s).2.h≤1∧(opn s).1.2.n=s.n∧(opn s).2.tk≤s.n / 2∧(opn s).2.g≤2147483647∧∀t∈(opn s).2.ts,1≤t.length∧t.length≤2000:=by
 have og:=opn_le s
 unfold opn at h og ⊢
 by_cases h1:s.n / 2 < 2
 ·rw[if_pos h1] at h;cases h
 ·rw[if_neg h1] at h og ⊢
  by_cases h2:s.down=true
  ·rw[if_pos h2] at h;cases h
  ·rw[if_neg h2] at h og ⊢
   by_cases h3:(use s).2=0
   ·rw[if_pos h3] at og ⊢
    exact⟨by omega,by show (0:Nat)≤1;decide,bgn_n _ _ _ _ _,by show 1≤s.n / 2;omega,og,nofun⟩
   ·rw[if_neg h3] at og ⊢
    have hl:((hb s ((use s).1*(s.n / 2)) (s.n / 2)).drop 64).length=64*(s.n / 2 - 1):=by rw[List.length_drop,hb_len hOk];omega
    have hfit:=scan_fits.scan_le 0 [] (s.n / 2) (s.n / 2 - 1) ((hb s ((use s).1*(s.n / 2)) (s.n / 2)).drop 64) (hm (use s).2) 1 hl
    refine⟨by omega,?_,cln_n _ _ _,?_,og,fun t ht=>scan_fits.scan_ok _ _ _ t ht⟩
    ·show (use s).1≤1
     unfold use
     split
     ·exact Nat.le_refl 1
     ·exact Nat.zero_le 1
    ·show tkn 1 (recs s _ _ _)≤s.n / 2
     unfold recs
     omega
structure Clo (P:Bs→Prop):Prop where
 zr:P (zr 64)
 mix:∀{p:Nat} {a b:Bs},P a→P b→a.length=64→P (mix p a b)
theorem getD_mix {p i:Nat} {a b:Bs} (la:a.length=64) (hi:i < 64):(mix p a b).getD i 0=if i < p then a.getD i 0 else b.getD i 0:=by
 unfold mix
 by_cases hp:i < p
 ·rw[if_pos hp,List.getD_eq_getElem?_getD,List.getD_eq_getElem?_getD,List.getElem?_append_left (by rw[List.length_take];omega),List.getElem?_take_of_lt hp]
 ·rw[if_neg hp,List.getD_eq_getElem?_getD,List.getD_eq_getElem?_getD,List.getElem?_append_right (by rw[List.length_take];omega),List.length_take,List.getElem?_drop,show p+(i - min p a.length)=i by omega]
def Hd4 (b:Bs):Prop:=(b.getD 4 0).toNat < 128
theorem hd4_hd {g:Nat} (h:g≤2147483647):Hd4 (hd g):=by
 have e:hd g=[76,79,71,0]++(ben g 4++(hm g++zr ((64 - (hf g++hm g).length % 64) % 64))):=by simp[hd,pdd,hf]
 unfold Hd4
 rw[e,rben4]
 show (UInt8.ofNat (g / 16777216)).toNat < 128
 rw[UInt8.toNat_ofNat']
 omega
theorem cl4:Clo Hd4:=by
 refine⟨by unfold Hd4 Lg.zr;decide,fun {p a b} ha hb la => ?_⟩
 unfold Hd4 at *
 rw[getD_mix la (by decide)]
 split
 ·exact ha
 ·exact hb
def Hd7 (N:Nat) (b:Bs):Prop:=b.getD 4 0=0∧b.getD 5 0=0∧b.getD 6 0=0∧(b.getD 7 0).toNat≤N
theorem hd7_hd {N g:Nat} (hN:N≤255) (h:g≤N):Hd7 N (hd g):=by
 have e:hd g=[76,79,71,0]++(ben g 4++(hm g++zr ((64 - (hf g++hm g).length % 64) % 64))):=by simp[hd,pdd,hf]
 unfold Hd7
 rw[e,rben4]
 show UInt8.ofNat (g / 16777216)=0∧UInt8.ofNat (g / 65536)=0∧UInt8.ofNat (g / 256)=0∧(UInt8.ofNat g).toNat≤N
 rw[show g / 16777216=0 by omega,show g / 65536=0 by omega,show g / 256=0 by omega,UInt8.toNat_ofNat']
 exact⟨rfl,rfl,rfl,by omega⟩
theorem cl7 (N:Nat):Clo (Hd7 N):=by
 refine⟨?_,fun {p a b} ha hb la => ?_⟩
 ·have e:∀i,(Lg.zr 64).getD i 0=0:=fun i=>by
   unfold Lg.zr
   rw[List.getD_eq_getElem?_getD,List.getElem?_replicate]
   split <;> rfl
  unfold Hd7
  rw[e,e,e,e]
  exact⟨rfl,rfl,rfl,Nat.zero_le _⟩
 ·unfold Hd7 at *
  rw[getD_mix la (by decide),getD_mix la (by decide),getD_mix la (by decide),getD_mix la (by decide)]
  refine⟨?_,?_,?_,?_⟩
  ·split
   ·exact ha.1
   ·exact hb.1
  ·split
   ·exact ha.2.1
   ·exact hb.2.1
  ·split
   ·exact ha.2.2.1
   ·exact hb.2.2.1
  ·split
   ·exact ha.2.2.2
   ·exact hb.2.2.2
theorem Hd7.mono {N M:Nat} (h:N≤M) {b:Bs} (k:Hd7 N b):Hd7 M b:=⟨k.1,k.2.1,k.2.2.1,Nat.le_trans k.2.2.2 h⟩
def Bg (n k:Nat):Prop:=k=0∨k=n / 2
structure Hp (P:Bs→Prop) (s:St):Prop where
 f:∀k,Bg s.n k→P (s.f k)
 l:∀x∈s.l,Bg s.n x.k→P x.b
theorem Hp.imp {P Q:Bs→Prop} {s:St} (h:Hp P s) (k:∀b,P b→Q b):Hp Q s:=⟨fun i hi=>k _ (h.f i hi),fun x hx hb=>k _ (h.l x hx hb)⟩
abbrev Hh (s:St):Prop:=Hp Hd4 s
section
variable {P:Bs→Prop}
theorem lay_hp:∀(l:List Wt) (f:Nat→Bs) (k:Nat),P (f k)→(∀x∈l,x.k=k→P x.b)→P (lay f l k)
 | [],_,_,h,_=>h
 | x::l,f,k,h,hl=>by
  refine lay_hp l _ k ?_ (fun y hy=>hl y (List.mem_cons_of_mem _ hy))
  unfold upd
  split
  ·rename_i e
   exact hl x (List.mem_cons_self ..) e.symm
  ·exact h
theorem Hp.sh {s:St} (h:Hp P s) {k:Nat} (hk:Bg s.n k):P (s.sh k):=lay_hp _ _ k (h.f k hk) (fun x hx e=>h.l x hx (by rw[e];exact hk))
theorem tear_hp (cl:Clo P) (ps:List Int):∀(l:List Wt) (f:Nat→Bs) (i k:Nat),(∀k,(f k).length=64)→(∀x∈l,x.b.length=64)→P (f k)→(∀x∈l,x.k=k→P x.b)→P (tear ps f l i k)
 | [],_,_,_,_,_,h,_=>h
 | x::l,f,i,k,hf,hl,h,hk=>by
  refine tear_hp cl ps l _ _ k (upd_64 hf _ (mix_len (pkAt_lt ps i) (hl x (List.mem_cons_self ..)) (hf _))) (fun y hy=>hl y (List.mem_cons_of_mem _ hy)) ?_ (fun y hy=>hk y (List.mem_cons_of_mem _ hy))
  unfold upd
  split
  ·rename_i e
   rw[←e]
   exact cl.mix (hk x (List.mem_cons_self ..) e.symm) h (hl x (List.mem_cons_self ..))
  ·exact h
theorem Hp.crash (cl:Clo P) {s:St} (h:Hp P s) (ok:Ok s) (ps:List Int):Hp P (crS s ps) :=
 ⟨fun k hk=>tear_hp cl ps s.l s.f 0 k ok.f64 (fun x hx=>(ok.wk x hx).2) (h.f k hk) (fun x hx e=>h.l x hx (by rw[e];exact hk)),nofun⟩
theorem Hp.fuse {s:St} (h:Hp P s) (n:Int):Hp P (fuS s n):=by
 unfold fuS
 split
 ·exact h
 ·split
  ·exact h
  ·exact⟨h.f,h.l⟩
theorem Hp.sync {s:St} (h:Hp P s):Hp P (syS s):=by
 unfold syS
 split
 ·exact h
 ·split
  ·exact⟨h.f,h.l⟩
  ·exact⟨fun k hk=>h.sh hk,nofun⟩
theorem Hp.write {s:St} (h:Hp P s) (k:Nat) (b:Bs) (hb:Bg s.n k→P b):Hp P (wrS s (k:Int) b):=by
 unfold wrS
 split
 ·exact h
 ·split
  ·exact h
  ·split
   ·exact⟨h.f,h.l⟩
   ·refine⟨h.f,fun x hx hx2 => ?_⟩
    rcases List.mem_append.1 hx with hx|hx
    ·exact h.l x hx hx2
    ·rw[List.mem_singleton] at hx
     subst hx
     rw[Int.toNat_natCast] at hx2
     exact hb hx2
theorem Hp.thn {z:Int×St} {f:St→Int×St} (h:Hp P z.2) (hf:∀s,Hp P s→s.n=z.2.n→Hp P (f s).2):Hp P (thn z f).2:=by
 by_cases h0:z.1=0
 ·rw[thn_ok h0];exact hf _ h rfl
 ·rw[thn_no h0];exact h
theorem Hp.wrs:∀(bs:List Bs) (s:St) (k:Nat),Hp P s→(∀j,j < bs.length→¬Bg s.n (k+j))→Hp P (wrs s k bs).2
 | [],_,_,h,_=>h
 | b::bs,s,k,h,hk=>by
  rw[Lg.wrs]
  refine Hp.thn (z:=(wrE s (k:Int) b,wrS s (k:Int) b)) (h.write k b (fun c=>absurd c (hk 0 (by simp)))) (fun s' h' hn => ?_)
  have hn':s'.n=s.n:=hn.trans (wrS_n s _ b)
  exact Hp.wrs bs s' (k+1) h' (fun j hj=>by rw[hn',show k+1+j=k+(j+1) by omega];exact hk (j+1) (by simpa using hj))
theorem Hp.wrb {s:St} (h:Hp P s) (k:Nat) (b:Bs) (hk:∀j,j < b.length / 64→¬Bg s.n (k+j)):Hp P (wrb s k b).2:=Hp.wrs _ s k h (fun j hj=>hk j (by rw[chs_len] at hj;exact hj))
theorem Hp.cls (cl:Clo P):∀(m:Nat) (s:St) (k:Nat) (d:Bool),Hp P s→Hp P (cls s k m d).2
 | 0,s,k,d,h=>by
  rw[Lg.cls]
  split
  ·exact h.sync
  ·exact h
 | m+1,s,k,d,h=>by
  rw[Lg.cls]
  split
  ·exact Hp.cls cl m s _ d h
  ·exact Hp.thn (z:=(wrE s (k:Int) (Lg.zr 64),wrS s (k:Int) (Lg.zr 64))) (h.write k _ (fun _=>cl.zr)) (fun s' h' _=>Hp.cls cl m s' _ true h')
theorem Hp.cln (cl:Clo P) {s:St} (h:Hp P s) (k m:Nat):Hp P (cln s k m).2:=by
 unfold Lg.cln
 split
 ·exact h
 ·exact Hp.cls cl m s k false h
theorem half_in {n h tk m j:Nat} (hh:h≤1) (h1:1≤tk) (h2:tk+m≤n / 2) (hj:j < m):¬Bg n (h*(n / 2)+tk+j):=by
 unfold Bg
 rcases (by omega:h=0∨h=1) with rfl|rfl
 ·rw[Nat.zero_mul];omega
 ·rw[Nat.one_mul];omega
theorem Hp.pts {h:Nat} (hh:h≤1):∀(l:List Bs) (s:St) (tk:Nat) (a:Bs),Hp P s→1≤tk→tk+sns l≤s.n / 2→Hp P (pts s (h*(s.n / 2)) tk a l).2
 | [],_,_,_,k,_,_=>k
 | t::l,s,tk,a,k,h1,h2=>by
  have h2':tk+(sn t+sns l)≤s.n / 2:=h2
  rw[Lg.pts]
  refine Hp.thn (k.wrb _ _ (fun j hj=>half_in hh h1 (show tk+sn t≤s.n / 2 by omega) (by rw[rcd_len] at hj;omega))) (fun s' k' hn => ?_)
  have hn':s'.n=s.n:=hn.trans (wrb_n s _ _)
  have:=Hp.pts hh l s' (tk+sn t) (rmk a t) k' (by omega) (by rw[hn'];omega)
  rw[hn'] at this
  exact this
theorem Hp.bgn (cl:Clo P) {s:St} (k:Hp P s) {h g:Nat} (hh:h≤1) (hg:P (hd g)) (ts:List Bs) (hs:1+sns ts≤s.n / 2):Hp P (bgn s (h*(s.n / 2)) (s.n / 2) g ts).2:=by
 unfold Lg.bgn
 refine Hp.thn (k.cln cl _ _) (fun s1 k1 n1 => ?_)
 have n1':s1.n=s.n:=n1.trans (cln_n _ _ _)
 have p1:=Hp.pts hh ts s1 1 (hm g) k1 (Nat.le_refl _) (by rw[n1'];exact hs)
 rw[n1'] at p1
 refine Hp.thn p1 (fun s2 k2 n2 => ?_)
 refine Hp.thn (z:=(syE s2,syS s2)) k2.sync (fun s3 k3 n3 => ?_)
 have e1:=wrb_one s3 (h*(s.n / 2)) (hd g) (hd_len g)
 rw[e1]
 refine Hp.thn (z:=(wrE s3 ((h*(s.n / 2):Nat):Int) (hd g),wrS s3 ((h*(s.n / 2):Nat):Int) (hd g))) (k3.write _ _ (fun _=>hg)) (fun s4 k4 _=>k4.sync)
theorem Hp.app {s:St} (k:Hp P s) {x:Lo} (hh:x.h≤1) (t:Bs):Hp P (app s x t).1.2:=by
 unfold Lg.app
 split
 ·exact k
 ·split
  ·exact k
  ·rename_i h2
   have h1:1≤x.tk:=tkn_ge x.ts 1
   exact k.wrb _ _ (fun j hj=>half_in hh h1 (show x.tk+sn t≤s.n / 2 by omega) (by rw[rcd_len] at hj;omega))
theorem Hp.cmp (cl:Clo P) {s:St} (k:Hp P s) {x:Lo} (hg:x.g < 2147483647→P (hd (x.g+1))) (hh:x.h≤1) (hn:4≤s.n) (ts:List Bs):Hp P (cmp s x ts).1.2:=by
 unfold Lg.cmp
 split
 ·exact k
 ·split
  ·exact k
  ·rename_i h2
   split
   ·exact k
   ·rename_i h3
    exact k.bgn cl (by omega) (hg (by omega)) ts (by omega)
end
theorem gen_same {s:St} (ok:Ok s) {k:Nat} {H:Nat} (hH:1≤H):genr (s.sh k)=gen (hb s k H):=by
 have l64:=ok.sh64 k
 obtain⟨m,rfl⟩:∃m,H=1+m:=⟨H - 1,by omega⟩
 have e1:hb s k 1=s.sh k:=by simp[hb]
 rw[hb_app,e1]
 obtain⟨b,hbb⟩:∃b,s.sh k=b:=⟨_,rfl⟩
 rw[hbb] at l64 ⊢
 obtain⟨r,hr⟩:∃r,hb s (k+1) m=r:=⟨_,rfl⟩
 rw[hr]
 have e4:((b++r).drop 4).take 4=(b.drop 4).take 4:=by
  rw[List.drop_append_of_le_length (by omega),List.take_append_of_le_length (by rw[List.length_drop];omega)]
 unfold gen genr
 rw[e4]
 obtain⟨n,hnn⟩:∃n,nm ((b.drop 4).take 4)=n:=⟨_,rfl⟩
 rw[hnn]
 have hp:(hd n).isPrefixOf (b++r)=true↔b=hd n:=by
  rw[List.isPrefixOf_iff_prefix]
  constructor
  ·rintro ⟨t,ht⟩
   have:=congrArg (List.take 64) ht
   rw[List.take_left' (hd_len n),List.take_left' l64] at this
   exact this.symm
  ·intro e
   rw[e]
   exact List.prefix_append _ _
 by_cases hb2:b=hd n
 ·by_cases hn:n≤2147483647
  ·by_cases h0:n < 1
   ·rw[if_pos (.inl h0),if_pos ⟨hn,hp.2 hb2⟩]
    omega
   ·rw[if_neg (by rintro (c|c|c);omega;omega;exact c hb2),if_pos ⟨hn,hp.2 hb2⟩]
  ·rw[if_pos (.inr (.inl (by omega))),if_neg (fun c=>hn c.1)]
 ·rw[if_pos (.inr (.inr hb2)),if_neg (fun c=>hb2 (hp.1 c.2))]
theorem opn_same {s:St} (ok:Ok s):opnr s=opn s:=by
 unfold opnr opn
 by_cases h1:s.n / 2 < 2
 ·rw[if_pos h1,if_pos h1]
 ·rw[if_neg h1,if_neg h1]
  have e0:=gen_same ok (k:=0) (H:=s.n / 2) (by omega)
  have eH:=gen_same ok (k:=s.n / 2) (H:=s.n / 2) (by omega)
  have eu:user s=use s:=by
   unfold user use
   rw[e0,eH]
  rw[eu]
theorem Hp.opn {P:Bs→Prop} (cl:Clo P) (hg:P (hd 1)) {s:St} (h:Hp P s):Hp P (opn s).1.2:=by
 unfold Lg.opn
 by_cases h1:s.n / 2 < 2
 ·rw[if_pos h1];exact h
 ·rw[if_neg h1]
  by_cases h2:s.down=true
  ·rw[if_pos h2];exact h
  ·rw[if_neg h2]
   by_cases h3:(use s).2=0
   ·rw[if_pos h3]
    have:=h.bgn cl (h:=0) (g:=1) (by decide) hg [] (by show 1+0≤_;omega)
    rw[Nat.zero_mul] at this
    exact this
   ·rw[if_neg h3]
    exact h.cln cl _ _
theorem gen_small {N:Nat} {s:St} (ok:Ok s) {k H:Nat} (hH:1≤H) (h:Hd7 N (s.sh k)):gen (hb s k H)≤N:=by
 have l64:=ok.sh64 k
 have e1:genr (s.sh k)=gen (hb s k H):=gen_same ok hH
 rw[←e1]
 obtain⟨b,hbb⟩:∃b,s.sh k=b:=⟨_,rfl⟩
 rw[hbb] at l64 h ⊢
 have gd:∀i (hi:i < 64),b.getD i 0=b[i]'(by omega):=fun i hi=>by
  rw[List.getD_eq_getElem?_getD,List.getElem?_eq_getElem (by omega)];rfl
 obtain⟨a4,a5,a6,a7⟩:=h
 rw[gd 4 (by decide)] at a4
 rw[gd 5 (by decide)] at a5
 rw[gd 6 (by decide)] at a6
 rw[gd 7 (by decide)] at a7
 unfold genr
 rw[four b (by omega),a4,a5,a6]
 split
 ·exact Nat.zero_le _
 ·show ((0*256+0)*256+0)*256+b[7].toNat≤N
  omega
theorem opn_small {N:Nat} {s:St} (ok:Ok s) (h:Hp (Hd7 N) s) (h1:1≤N):(opn s).2.g≤N:=by
 unfold Lg.opn
 by_cases c1:s.n / 2 < 2
 ·rw[if_pos c1];exact Nat.zero_le _
 ·rw[if_neg c1]
  by_cases c2:s.down=true
  ·rw[if_pos c2];exact Nat.zero_le _
  ·rw[if_neg c2]
   by_cases c3:(use s).2=0
   ·rw[if_pos c3];exact h1
   ·rw[if_neg c3]
    show (use s).2≤N
    unfold use
    split
    ·exact gen_small ok (by omega) (h.sh (.inr rfl))
    ·exact gen_small ok (by omega) (h.sh (.inl rfl))
theorem cmp_h {s:St} {x:Lo} (hh:x.h≤1) (ts:List Bs):(cmp s x ts).2.h≤1:=by
 unfold cmp
 by_cases h1:mays ts≠0
 ·rw[if_pos h1];exact hh
 ·rw[if_neg h1]
  by_cases h2:s.n / 2 - 1 < sns ts
  ·rw[if_pos h2];exact hh
  ·rw[if_neg h2]
   by_cases h3:2147483647≤x.g
   ·rw[if_pos h3];exact hh
   ·rw[if_neg h3]
    show (if (bgn s ((1 - x.h)*(s.n / 2)) (s.n / 2) (x.g+1) ts).1=0 then (⟨1 - x.h,x.g+1,ts⟩:Lo) else x).h≤1
    by_cases h4:(bgn s ((1 - x.h)*(s.n / 2)) (s.n / 2) (x.g+1) ts).1=0
    ·rw[if_pos h4];show 1 - x.h≤1;omega
    ·rw[if_neg h4];exact hh
structure Kp (s s':St) (m:Nat):Prop where
 n:s'.n=s.n
 h:Hh s→Hh s'
 l:s'.l.length≤s.l.length+m
theorem Kp.refl (s:St) (m:Nat):Kp s s m:=⟨rfl,id,Nat.le_add_right _ _⟩
theorem kp_app {s:St} {x:Lo} (hh:x.h≤1) (t:Bs):Kp s (app s x t).1.2 40:=⟨(app_len s x t).2,fun k=>k.app hh t,(app_len s x t).1⟩
theorem kp_cmp {s:St} {x:Lo} (hh:x.h≤1) (hn:4≤s.n) (ts:List Bs):Kp s (cmp s x ts).1.2 (s.n+1):=⟨(cmp_len s x ts).2,fun k=>k.cmp cl4 (fun c=>hd4_hd (by omega)) hh hn ts,by have:=(cmp_len s x ts).1;omega⟩
theorem kp_sync (s:St):Kp s (syS s) 0:=⟨syS_n s,fun k=>k.sync,syS_len s⟩
theorem Kp.trans {a b c:St} {m k:Nat} (h:Kp a b m) (j:Kp b c k):Kp a c (m+k):=⟨j.n.trans h.n,fun z=>j.h (h.h z),by have:=h.l;have:=j.l;omega⟩
theorem Kp.mono {a b:St} {m k:Nat} (h:Kp a b m) (hm:m≤k):Kp a b k:=⟨h.n,h.h,by have:=h.l;omega⟩
theorem kp_opn {s:St} (_ok:Ok s):Kp s (opn s).1.2 (2*s.n+2):=by
 refine⟨?_,fun k=>k.opn cl4 (hd4_hd (by decide)),?_⟩
 ·unfold opn
  by_cases h1:s.n / 2 < 2
  ·rw[if_pos h1]
  ·rw[if_neg h1]
   by_cases h2:s.down=true
   ·rw[if_pos h2]
   ·rw[if_neg h2]
    by_cases h3:(use s).2=0
    ·rw[if_pos h3];exact bgn_n _ _ _ _ _
    ·rw[if_neg h3];exact cln_n _ _ _
 ·unfold opn
  by_cases h1:s.n / 2 < 2
  ·rw[if_pos h1];show s.l.length≤_;omega
  ·rw[if_neg h1]
   by_cases h2:s.down=true
   ·rw[if_pos h2];show s.l.length≤_;omega
   ·rw[if_neg h2]
    by_cases h3:(use s).2=0
    ·rw[if_pos h3]
     have:=bgn_len s 0 (s.n / 2) 1 []
     have e:sns ([]:List Bs)=0:=rfl
     rw[e] at this
     show (bgn s 0 (s.n / 2) 1 []).2.l.length≤_
     omega
    ·rw[if_neg h3]
     have:=cln_len s ((use s).1*(s.n / 2)+tkn 1 (recs s ((use s).1*(s.n / 2)) (s.n / 2) (use s).2)) (s.n / 2 - tkn 1 (recs s ((use s).1*(s.n / 2)) (s.n / 2) (use s).2))
     show (cln s _ _).2.l.length≤_
     omega
theorem kp_crash {s:St} (ok:Ok s) (ps:List Int):Kp s (crS s ps) 0:=⟨rfl,fun k=>k.crash cl4 ok ps,Nat.zero_le _⟩
theorem kp_fuse (s:St) (n:Int):Kp s (fuS s n) 0:=by
 refine⟨?_,fun k=>k.fuse n,?_⟩
 ·unfold fuS
  split
  ·rfl
  ·split <;> rfl
 ·unfold fuS
  split
  ·exact Nat.le_refl _
  ·split
   ·exact Nat.le_refl _
   ·exact Nat.le_refl _
end Go.Proofs.YtjpaodepnacimaaGreatDoor
namespace Go.Proofs.Bx
open Go.Proofs.Dk Go.Proofs.Lg
abbrev Sl:=Bs×Bs
abbrev Bxs:=Nat→List Sl
def ids (l:List Sl):List Bs:=l.map fun e=>e.1
theorem ids_app (l m:List Sl):ids (l++m)=ids l++ids m:=List.map_append
def upB (b:Bxs) (u:Nat) (l:List Sl):Bxs:=fun v=>if v=u then l else b v
theorem upB_same (b:Bxs) (u:Nat) (l:List Sl):upB b u l u=l:=if_pos rfl
theorem upB_other (b:Bxs) {u v:Nat} (l:List Sl) (h:v≠u):upB b u l v=b v:=if_neg h
theorem upB_self (b:Bxs) (u:Nat):upB b u (b u)=b:=by
 funext v
 unfold upB
 by_cases h:v=u
 ·rw[if_pos h,h]
 ·rw[if_neg h]
theorem upB_upB (b:Bxs) (u:Nat) (l m:List Sl):upB (upB b u l) u m=upB b u m:=by
 funext v
 unfold upB
 by_cases h:v=u
 ·rw[if_pos h,if_pos h]
 ·rw[if_neg h,if_neg h,if_neg h]
def rmL:List Sl→Bs→List Sl
 | [],_=>[]
 | e::l,i=>if e.1=i then l else e::rmL l i
theorem rmL_not:∀(l:List Sl) (i:Bs),i ∉ ids l→rmL l i=l
 | [],_,_=>rfl
 | e::l,i,h=>by
  rw[rmL,if_neg (fun c=>h (by rw[←c];exact List.mem_cons_self ..)),rmL_not l i (fun c=>h (List.mem_cons_of_mem _ c))]
theorem rmL_len:∀(l:List Sl) (i:Bs),i∈ids l→(rmL l i).length+1=l.length
 | [],_,h=>by cases h
 | e::l,i,h=>by
  rw[rmL]
  by_cases c:e.1=i
  ·rw[if_pos c,List.length_cons]
  ·rw[if_neg c,List.length_cons,List.length_cons]
   rcases List.mem_cons.1 h with h|h
   ·exact absurd h.symm c
   ·rw[rmL_len l i h]
theorem rmL_sub:∀(l:List Sl) (i:Bs),(rmL l i).Sublist l
 | [],_=>List.Sublist.refl _
 | e::l,i=>by
  rw[rmL]
  by_cases c:e.1=i
  ·rw[if_pos c];exact List.sublist_cons_self ..
  ·rw[if_neg c];exact (rmL_sub l i).cons_cons e
theorem rmL_filter:∀(l:List Sl) (i:Bs),(ids l).Nodup→rmL l i=l.filter fun e=>!decide (e.1=i)
 | [],_,_=>rfl
 | e::l,i,h=>by
  have h2:=List.nodup_cons.1 h
  rw[rmL]
  by_cases c:e.1=i
  ·rw[if_pos c,List.filter_cons,if_neg (by simp[c])]
   refine (List.filter_eq_self.2 fun x hx => ?_).symm
   have:x.1≠i:=fun d=>h2.1 (List.mem_map.2 ⟨x,hx,d.trans c.symm⟩)
   simp[this]
  ·rw[if_neg c,List.filter_cons,if_pos (by simp[c]),rmL_filter l i h2.2]
def okI (i:Bs):Bool:=decide (i.length=16) && !decide (i=zr 16)
theorem okI_len {i:Bs} (h:okI i=true):i.length=16:=by
 unfold okI at h
 simp at h
 exact h.1
def putR (u:Nat) (i t:Bs):Bs:=80::UInt8.ofNat u::(i++t)
def ackR (u:Nat) (i:Bs):Bs:=65::UInt8.ofNat u::i
def rU (r:Bs):Nat:=(r.getD 1 0).toNat
def rI (r:Bs):Bs:=(r.drop 2).take 16
def rT (r:Bs):Bs:=r.drop 18
def isP (l:List Sl) (r:Bs):Bool:=decide (r.getD 0 0=80) && okI (rI r) && decide ((rT r).length≤222) && !decide (rI r∈ids l)
def isA (l:List Sl) (r:Bs):Bool:=decide (r.getD 0 0=65) && decide (rT r=[]) && decide (rI r∈ids l)
def low (r:Bs):Bool:=decide (18≤r.length) && decide (rU r < 64)
def tkX (b:Bxs) (r:Bs):Option Bxs :=
 if low r=true then
  if isP (b (rU r)) r=true then some (upB b (rU r) (b (rU r)++[(rI r,rT r)]))
  else if isA (b (rU r)) r=true then some (upB b (rU r) (rmL (b (rU r)) (rI r)))
  else none
 else none
def tksX:Bxs→List Bs→Option Bxs
 | b,[]=>some b
 | b,r::l=>(tkX b r).bind fun c=>tksX c l
theorem tksX_app:∀(l:List Bs) (b:Bxs) (m:List Bs),tksX b (l++m)=(tksX b l).bind fun c=>tksX c m
 | [],_,_=>rfl
 | r::l,b,m=>by
  show (tkX b r).bind (fun c=>tksX c (l++m))=((tkX b r).bind fun c=>tksX c l).bind fun c=>tksX c m
  cases tkX b r with
  | none=>rfl
  | some c=>exact tksX_app l c m
theorem putR_at {u:Nat} (hu:u < 64) {i:Bs} (hi:i.length=16) (t:Bs):(putR u i t).getD 0 0=80∧rU (putR u i t)=u∧rI (putR u i t)=i∧rT (putR u i t)=t∧low (putR u i t)=true:=by
 have e1:rU (putR u i t)=u:=by
  show (UInt8.ofNat u).toNat=u
  rw[UInt8.toNat_ofNat']
  omega
 refine⟨rfl,e1,?_,?_,?_⟩
 ·show (i++t).take 16=i
  rw[←hi]
  exact List.take_left
 ·show (i++t).drop 16=t
  rw[←hi]
  exact List.drop_left
 ·unfold low
  rw[e1]
  have:(putR u i t).length=18+t.length:=by
   show (i++t).length+1+1=_
   rw[List.length_append]
   omega
  simp[this,hu]
theorem ackR_at {u:Nat} (hu:u < 64) {i:Bs} (hi:i.length=16):(ackR u i).getD 0 0=65∧rU (ackR u i)=u∧rI (ackR u i)=i∧rT (ackR u i)=[]∧low (ackR u i)=true:=by
 have e1:rU (ackR u i)=u:=by
  show (UInt8.ofNat u).toNat=u
  rw[UInt8.toNat_ofNat']
  omega
 refine⟨rfl,e1,?_,?_,?_⟩
 ·show i.take 16=i
  exact List.take_of_length_le (by omega)
 ·show i.drop 16=[]
  exact List.drop_of_length_le (by omega)
 ·unfold low
  rw[e1]
  have:(ackR u i).length=18:=by
   show i.length+1+1=_
   omega
  simp[this,hu]
theorem tkX_put {b:Bxs} {u:Nat} (hu:u < 64) {i t:Bs} (hi:okI i=true) (ht:t.length≤222) (h:i ∉ ids (b u)):tkX b (putR u i t)=some (upB b u (b u++[(i,t)])):=by
 obtain⟨a0,a1,a2,a3,a4⟩:=putR_at hu (okI_len hi) t
 unfold tkX isP
 rw[if_pos a4,a0,a1,a2,a3,if_pos (by simp[hi,ht,h])]
theorem tkX_ack {b:Bxs} {u:Nat} (hu:u < 64) {i:Bs} (hi:i.length=16) (h:i∈ids (b u)):tkX b (ackR u i)=some (upB b u (rmL (b u) i)):=by
 obtain⟨a0,a1,a2,a3,a4⟩:=ackR_at hu hi
 unfold tkX isP isA
 rw[if_pos a4,a0,a1,a2,a3,if_neg (by simp),if_pos (by simp[h])]
structure Gx (b:Bxs):Prop where
 u:∀u,64≤u→b u=[]
 i:∀u e,e∈b u→okI e.1=true∧e.2.length≤222
 n:∀u,(ids (b u)).Nodup
theorem Gx.nil:Gx fun _=>[]:=⟨fun _ _=>rfl,fun _ _ h=>(by cases h),fun _=>List.nodup_nil⟩
theorem Gx.put {b:Bxs} (g:Gx b) {u:Nat} (hu:u < 64) {i t:Bs} (hi:okI i=true) (ht:t.length≤222) (h:i ∉ ids (b u)):Gx (upB b u (b u++[(i,t)])):=by
 refine⟨fun v hv => ?_,fun v e he => ?_,fun v => ?_⟩
 ·rw[upB_other _ _ (by omega),g.u v hv]
 ·by_cases c:v=u
  ·subst c
   rw[upB_same] at he
   rcases List.mem_append.1 he with he|he
   ·exact g.i v e he
   ·rw[List.mem_singleton.1 he];exact⟨hi,ht⟩
  ·rw[upB_other _ _ c] at he;exact g.i v e he
 ·by_cases c:v=u
  ·subst c
   rw[upB_same,ids_app]
   refine List.nodup_append.2 ⟨g.n v,List.nodup_cons.2 ⟨fun h=>(by cases h),List.nodup_nil⟩,fun x hx y hy e=>h ?_⟩
   have hi2:y=i:=List.mem_singleton.1 hy
   rw[←hi2,←e]
   exact hx
  ·rw[upB_other _ _ c];exact g.n v
theorem Gx.rm {b:Bxs} (g:Gx b) (u:Nat) (i:Bs):Gx (upB b u (rmL (b u) i)):=by
 refine⟨fun v hv => ?_,fun v e he => ?_,fun v => ?_⟩
 ·by_cases c:v=u
  ·subst c;rw[upB_same,g.u v hv];rfl
  ·rw[upB_other _ _ c,g.u v hv]
 ·by_cases c:v=u
  ·subst c
   rw[upB_same] at he
   exact g.i v e ((rmL_sub _ i).subset he)
  ·rw[upB_other _ _ c] at he;exact g.i v e he
 ·by_cases c:v=u
  ·subst c
   rw[upB_same]
   exact ((rmL_sub _ i).map _).nodup (g.n v)
  ·rw[upB_other _ _ c];exact g.n v
theorem Gx.tk {b c:Bxs} (g:Gx b) {r:Bs} (h:tkX b r=some c):Gx c:=by
 unfold tkX at h
 by_cases h1:low r=true
 ·rw[if_pos h1] at h
  have hu:rU r < 64:=by unfold low at h1;simp at h1;exact h1.2
  by_cases h2:isP (b (rU r)) r=true
  ·rw[if_pos h2] at h
   unfold isP at h2
   simp at h2
   cases h
   exact g.put hu h2.1.1.2 h2.1.2 h2.2
  ·rw[if_neg h2] at h
   by_cases h3:isA (b (rU r)) r=true
   ·rw[if_pos h3] at h
    cases h
    exact g.rm _ _
   ·rw[if_neg h3] at h;cases h
 ·rw[if_neg h1] at h;cases h
theorem Gx.tks:∀(l:List Bs) {b c:Bxs},Gx b→tksX b l=some c→Gx c
 | [],_,_,g,h=>by cases h;exact g
 | r::l,b,c,g,h=>by
  rw[tksX] at h
  cases h1:tkX b r with
  | none=>rw[h1] at h;cases h
  | some a=>rw[h1] at h;exact Gx.tks l (g.tk h1) h
def manyX (b:Bxs):Nat→Nat
 | 0=>0
 | n+1=>manyX b n+(b n).length
theorem manyX_up:∀(n:Nat) (b:Bxs) (u:Nat) (l:List Sl),u < n→manyX (upB b u l) n+(b u).length=manyX b n+l.length
 | 0,_,_,_,h=>absurd h (Nat.not_lt_zero _)
 | n+1,b,u,l,h=>by
  have off:∀(k:Nat),k≤u→manyX (upB b u l) k=manyX b k:=by
   intro k
   induction k with
   | zero=>intro _;rfl
   | succ k ih =>
    intro hk
    rw[manyX,manyX,ih (by omega),upB_other _ _ (by omega)]
  rw[manyX,manyX]
  by_cases c:u=n
  ·subst c
   rw[upB_same,off u (Nat.le_refl _)]
   omega
  ·have:=manyX_up n b u l (by omega)
   rw[upB_other _ _ (fun e=>c e.symm)]
   omega
theorem manyX_at:∀(n:Nat) (b:Bxs) (u:Nat),u < n→(b u).length≤manyX b n
 | 0,_,_,h=>absurd h (Nat.not_lt_zero _)
 | n+1,b,u,h=>by
  rw[manyX]
  by_cases c:u=n
  ·subst c;omega
  ·have:=manyX_at n b u (by omega);omega
def shX (b:Bxs):List Bs:=(List.range 64).flatMap fun u=>(b u).map fun e=>putR u e.1 e.2
def apX:St→Lo→List Bs→(Int×St)×Lo
 | s,x,[]=>((0,s),x)
 | s,x,r::l=>if (app s x r).1.1=0 then apX (app s x r).1.2 (app s x r).2 l else app s x r
def wrX (s:St) (x:Lo) (b c:Bxs) (rs:List Bs):((Int×St)×Lo)×Bxs :=
 let y:=apX s x rs
 if y.1.1=151 then (cmp y.1.2 y.2 (shX c),if (cmp y.1.2 y.2 (shX c)).1.1=0 then c else b)
 else if y.1.1≠0 then (y,b)
 else (((syE y.1.2,syS y.1.2),y.2),if syE y.1.2=0 then c else b)
def noU (u:Int):Bool:=decide (u < 0) || decide (64≤u)
def puX (q:Nat) (s:St) (x:Lo) (b:Bxs) (u:Int) (i t:Bs):((Int×St)×Lo)×Bxs :=
 if noU u=true then (((1,s),x),b)
 else if okI i=false then (((3,s),x),b)
 else if 222 < t.length then (((2,s),x),b)
 else if i∈ids (b u.toNat) then (((6,s),x),b)
 else if q≤(b u.toNat).length then (((180,s),x),b)
 else wrX s x b (upB b u.toNat (b u.toNat++[(i,t)])) [putR u.toNat i t]
def aks:List Sl→List Bs→List Bs
 | _,[]=>[]
 | l,i::m=>if i∈ids l then i::aks (rmL l i) m else aks l m
def rms:List Sl→List Bs→List Sl
 | l,[]=>l
 | l,i::m=>rms (rmL l i) m
theorem aks_tk:∀(m:List Bs) (b:Bxs) (u:Nat),u < 64→(∀i∈m,i.length=16)→tksX b ((aks (b u) m).map (ackR u))=some (upB b u (rms (b u) m))
 | [],b,u,_,_=>by
  rw[aks,rms,upB_self]
  rfl
 | i::m,b,u,hu,hm=>by
  rw[aks]
  by_cases c:i∈ids (b u)
  ·rw[if_pos c,rms,List.map_cons,tksX,tkX_ack hu (hm i (List.mem_cons_self ..)) c]
   have:=aks_tk m (upB b u (rmL (b u) i)) u hu (fun x hx=>hm x (List.mem_cons_of_mem _ hx))
   rw[upB_same,upB_upB] at this
   exact this
  ·rw[if_neg c,rms,rmL_not _ _ c]
   exact aks_tk m b u hu (fun x hx=>hm x (List.mem_cons_of_mem _ hx))
theorem aks_len:∀(m:List Bs) (l:List Sl),(aks l m).length≤m.length∧(aks l m).length≤l.length
 | [],_=>⟨Nat.le_refl _,Nat.zero_le _⟩
 | i::m,l=>by
  rw[aks]
  by_cases c:i∈ids l
  ·have h:=aks_len m (rmL l i)
   have:=rmL_len l i c
   rw[if_pos c,List.length_cons,List.length_cons]
   omega
  ·have h:=aks_len m l
   rw[if_neg c,List.length_cons]
   omega
def akX (s:St) (x:Lo) (b:Bxs) (u:Int) (m:List Bs):Nat×(((Int×St)×Lo)×Bxs) :=
 if noU u=true then (0,(((1,s),x),b))
 else if (m.any fun i=>!okI i)=true then (0,(((3,s),x),b))
 else if 256 < m.length then (0,(((2,s),x),b))
 else if aks (b u.toNat) m=[] then (0,(((0,s),x),b))
 else
  let y:=wrX s x b (upB b u.toNat (rms (b u.toNat) m)) ((aks (b u.toNat) m).map (ackR u.toNat))
  (if y.1.1.1=0 then (aks (b u.toNat) m).length else 0,y)
def fiX (b:Bxs) (u n:Int):Int×List Sl :=
 if noU u=true∨n < 0∨256 < n then (1,[]) else (0,(b u.toNat).take n.toNat)
def opX (q:Int) (s:St) (o:(Int×St)×Lo):(Int×St)×Option (Lo×Bxs) :=
 if q < 1∨256 < q then ((1,s),none)
 else if o.1.1≠0 then (o.1,none)
 else match tksX (fun _=>[]) o.2.ts with
  | none=>((160,o.1.2),none)
  | some b=>((0,o.1.2),some (o.2,b))
abbrev En:=Nat×Sl
def ofE (E:List En):Bxs:=fun u=>(E.filter fun e=>decide (e.1=u)).map fun e=>e.2
theorem ofE_app (E F:List En) (u:Nat):ofE (E++F) u=ofE E u++ofE F u:=by
 unfold ofE
 rw[List.filter_append,List.map_append]
theorem ofE_cons (e:En) (E:List En) (u:Nat):ofE (e::E) u=if e.1=u then e.2::ofE E u else ofE E u:=by
 unfold ofE
 by_cases c:e.1=u
 ·rw[if_pos c,List.filter_cons,if_pos (by simp[c]),List.map_cons]
 ·rw[if_neg c,List.filter_cons,if_neg (by simp[c])]
theorem ofE_snoc (E:List En) (u:Nat) (p:Sl):ofE (E++[(u,p)])=upB (ofE E) u (ofE E u++[p]):=by
 funext v
 rw[ofE_app,ofE_cons]
 by_cases c:v=u
 ·subst c
  rw[if_pos rfl,upB_same]
  rfl
 ·rw[if_neg (fun h=>c h.symm),upB_other _ _ c]
  show ofE E v++[]=_
  rw[List.append_nil]
def plc:List En→Nat→Bs→Nat
 | [],_,_=>0
 | e::E,u,i=>if e.1=u∧e.2.1=i then 0 else plc E u i+1
theorem plc_lt:∀(E:List En) (u:Nat) (i:Bs),plc E u i < E.length↔i∈ids (ofE E u)
 | [],_,_=>⟨fun h=>absurd h (Nat.not_lt_zero _),fun h=>by cases h⟩
 | e::E,u,i=>by
  rw[plc,ofE_cons,List.length_cons]
  by_cases c:e.1=u
  ·rw[if_pos c]
   by_cases d:e.2.1=i
   ·rw[if_pos ⟨c,d⟩]
    exact⟨fun _=>by rw[←d];exact List.mem_cons_self ..,fun _=>by omega⟩
   ·rw[if_neg (fun h=>d h.2)]
    refine⟨fun h=>List.mem_cons_of_mem _ ((plc_lt E u i).1 (by omega)),fun h => ?_⟩
    rcases List.mem_cons.1 h with h|h
    ·exact absurd h.symm d
    ·have:=(plc_lt E u i).2 h;omega
  ·rw[if_neg c,if_neg (fun h=>c h.1)]
   exact⟨fun h=>(plc_lt E u i).1 (by omega),fun h=>by have:=(plc_lt E u i).2 h;omega⟩
theorem plc_at:∀(E:List En) (u:Nat) (i:Bs) (k:Nat) (hk:k < E.length),(∀j (hj:j < k),¬(E[j].1=u∧E[j].2.1=i))→E[k].1=u∧E[k].2.1=i→plc E u i=k
 | [],_,_,_,hk,_,_=>absurd hk (Nat.not_lt_zero _)
 | e::E,u,i,0,_,_,h=>by rw[plc,if_pos (show e.1=u∧e.2.1=i from h)]
 | e::E,u,i,k+1,hk,hb,h=>by
  rw[plc,if_neg (show ¬(e.1=u∧e.2.1=i) from hb 0 (by omega)),plc_at E u i k (by rw[List.length_cons] at hk;omega) (fun j hj=>hb (j+1) (by omega)) h]
theorem plc_none:∀(E:List En) (u:Nat) (i:Bs),(∀j (hj:j < E.length),¬(E[j].1=u∧E[j].2.1=i))→plc E u i=E.length
 | [],_,_,_=>rfl
 | e::E,u,i,hb=>by
  rw[plc,if_neg (show ¬(e.1=u∧e.2.1=i) from hb 0 (by rw[List.length_cons];omega)),plc_none E u i (fun j hj=>hb (j+1) (by rw[List.length_cons];omega)),List.length_cons]
def rmE (E:List En) (u:Nat) (i:Bs):List En:=E.take (plc E u i)++E.drop (plc E u i+1)
theorem ofE_rm:∀(E:List En) (u:Nat) (i:Bs),ofE (rmE E u i)=upB (ofE E) u (rmL (ofE E u) i)
 | [],u,i=>by
  show ofE []=_
  funext v
  unfold upB
  split <;> rfl
 | e::E,u,i=>by
  funext v
  have ih:=congrFun (ofE_rm E u i) v
  unfold rmE at ih ⊢
  rw[plc]
  by_cases c:e.1=u∧e.2.1=i
  ·rw[if_pos c]
   show ofE E v=_
   rw[ofE_cons,if_pos c.1,rmL,if_pos c.2]
   by_cases d:v=u
   ·rw[d,upB_same]
   ·rw[upB_other _ _ d,ofE_cons,if_neg (fun h=>d (by rw[←h,c.1]))]
  ·rw[if_neg c]
   show ofE (e::(E.take (plc E u i)++E.drop (plc E u i+1))) v=_
   rw[ofE_cons,ih]
   by_cases d:v=u
   ·subst d
    rw[upB_same,upB_same,ofE_cons]
    by_cases f:e.1=v
    ·rw[if_pos f,if_pos f,rmL,if_neg (fun h=>c ⟨f,h⟩)]
    ·rw[if_neg f,if_neg f]
   ·rw[upB_other _ _ d,upB_other _ _ d,ofE_cons]
def tkL (E:List En) (r:Bs):Option (List En) :=
 if low r=true then
  if isP (ofE E (rU r)) r=true then some (E++[(rU r,(rI r,rT r))])
  else if isA (ofE E (rU r)) r=true then some (rmE E (rU r) (rI r))
  else none
 else none
theorem tkL_of (E:List En) (r:Bs):(tkL E r).map ofE=tkX (ofE E) r:=by
 unfold tkL tkX
 by_cases h1:low r=true
 ·rw[if_pos h1,if_pos h1]
  by_cases h2:isP (ofE E (rU r)) r=true
  ·rw[if_pos h2,if_pos h2,Option.map_some,ofE_snoc]
  ·rw[if_neg h2,if_neg h2]
   by_cases h3:isA (ofE E (rU r)) r=true
   ·rw[if_pos h3,if_pos h3,Option.map_some,ofE_rm]
   ·rw[if_neg h3,if_neg h3];rfl
 ·rw[if_neg h1,if_neg h1];rfl
theorem tkL_len {E F:List En} {r:Bs} (h:tkL E r=some F):F.length≤E.length+1:=by
 unfold tkL at h
 split at h
 ·split at h
  ·cases h
   rw[List.length_append]
   exact Nat.le_refl _
  ·split at h
   ·cases h
    unfold rmE
    rw[List.length_append,List.length_take,List.length_drop]
    omega
   ·cases h
 ·cases h
def tksL:List En→List Bs→Option (List En)
 | E,[]=>some E
 | E,r::l=>(tkL E r).bind fun F=>tksL F l
theorem tksL_of:∀(l:List Bs) (E:List En),(tksL E l).map ofE=tksX (ofE E) l
 | [],_=>rfl
 | r::l,E=>by
  have h:=tkL_of E r
  rw[tksL,tksX]
  cases h1:tkL E r with
  | none =>
   rw[h1] at h
   rw[←h]
   rfl
  | some F =>
   rw[h1] at h
   rw[←h]
   exact tksL_of l F
end Go.Proofs.Bx
namespace Go.Proofs.YtjpaodepnacimaaGreatDoor
open Go.RowKit Go.Proofs.Fd Go.Proofs.Dk Go.Proofs.Lg Go.Proofs.Bx
set_option maxRecDepth 20000
theorem app_half (s:St) (x:Lo) (t:Bs):(app s x t).2.h=x.h:=by
 unfold app
 split
 ·rfl
 ·split
  ·rfl
  ·show (if _ then _ else _:Lo).h=_
   split <;> rfl
theorem kp_apX:∀(rs:List Bs) (s:St) (x:Lo),x.h≤1→Kp s (apX s x rs).1.2 (40*rs.length)∧(apX s x rs).2.h≤1
 | [],s,x,hh=>⟨Kp.refl _ _,hh⟩
 | r::l,s,x,hh=>by
  have k:=kp_app (s:=s) hh r
  have hh2:(app s x r).2.h≤1:=by rw[app_half];exact hh
  rw[apX,List.length_cons]
  by_cases c:(app s x r).1.1=0
  ·rw[if_pos c]
   obtain⟨a,b⟩:=kp_apX l (app s x r).1.2 (app s x r).2 hh2
   exact⟨(k.trans a).mono (by omega),b⟩
  ·rw[if_neg c]
   exact⟨k.mono (by omega),hh2⟩
theorem kp_wrX {s:St} {x:Lo} (hh:x.h≤1) (hn:4≤s.n) (b c:Bxs) (rs:List Bs):Kp s (wrX s x b c rs).1.1.2 (s.n+1+40*rs.length)∧(wrX s x b c rs).1.2.h≤1:=by
 obtain⟨k,h1⟩:=kp_apX rs s x hh
 unfold wrX
 by_cases c1:(apX s x rs).1.1=151
 ·simp only[if_pos c1]
  have hn2:4≤(apX s x rs).1.2.n:=by rw[k.n];exact hn
  have z:=kp_cmp h1 hn2 (shX c)
  rw[k.n] at z
  exact⟨(k.trans z).mono (by omega),cmp_h h1 _⟩
 ·simp only[if_neg c1]
  by_cases c2:(apX s x rs).1.1≠0
  ·simp only[if_pos c2]
   exact⟨k.mono (by omega),h1⟩
  ·simp only[if_neg c2]
   exact⟨(k.trans (kp_sync _)).mono (by omega),h1⟩
theorem kp_puX {q:Nat} {s:St} {x:Lo} (hh:x.h≤1) (hn:4≤s.n) (b:Bxs) (u:Int) (i t:Bs):Kp s (puX q s x b u i t).1.1.2 (s.n+41)∧(puX q s x b u i t).1.2.h≤1:=by
 unfold puX
 split
 ·exact⟨Kp.refl _ _,hh⟩
 ·split
  ·exact⟨Kp.refl _ _,hh⟩
  ·split
   ·exact⟨Kp.refl _ _,hh⟩
   ·split
    ·exact⟨Kp.refl _ _,hh⟩
    ·split
     ·exact⟨Kp.refl _ _,hh⟩
     ·exact kp_wrX hh hn b _ _
theorem kp_akX {s:St} {x:Lo} (hh:x.h≤1) (hn:4≤s.n) (b:Bxs) (u:Int) (m:List Bs):Kp s (akX s x b u m).2.1.1.2 (s.n+10300)∧(akX s x b u m).2.1.2.h≤1:=by
 unfold akX
 split
 ·exact⟨Kp.refl _ _,hh⟩
 ·split
  ·exact⟨Kp.refl _ _,hh⟩
  ·split
   ·exact⟨Kp.refl _ _,hh⟩
   ·split
    ·exact⟨Kp.refl _ _,hh⟩
    ·rename_i h3 h4
     have z:=kp_wrX (s:=s) hh hn b (upB b u.toNat (rms (b u.toNat) m)) ((aks (b u.toNat) m).map (ackR u.toNat))
     have hl:=(aks_len m (b u.toNat)).1
     rw[List.length_map] at z
     exact⟨z.1.mono (by omega),z.2⟩
theorem kp_opX {s:St} (ok:Ok s) (q:Int):Kp s (opX q s (opn s)).1.2 (2*s.n+2):=by
 unfold opX
 split
 ·exact Kp.refl _ _
 ·split
  ·exact kp_opn ok
  ·split
   ·exact kp_opn ok
   ·exact kp_opn ok
structure Gm (n:Nat) (b:Bxs):Prop where
 g:Gx b
 m:manyX b 64≤n
theorem Gm.mono {n m:Nat} {b:Bxs} (h:Gm n b) (k:n≤m):Gm m b:=⟨h.g,Nat.le_trans h.m k⟩
theorem rmL_le (l:List Sl) (i:Bs):(rmL l i).length≤l.length:=(rmL_sub l i).length_le
theorem Gm.put {n:Nat} {b:Bxs} (h:Gm n b) {u:Nat} (hu:u < 64) {i t:Bs} (hi:okI i=true) (ht:t.length≤222) (hn:i ∉ ids (b u)):Gm (n+1) (upB b u (b u++[(i,t)])):=by
 refine⟨h.g.put hu hi ht hn,?_⟩
 have z:=manyX_up 64 b u (b u++[(i,t)]) hu
 rw[List.length_append,List.length_singleton] at z
 have:=h.m
 omega
theorem Gm.rm {n:Nat} {b:Bxs} (h:Gm n b) {u:Nat} (hu:u < 64) (i:Bs):Gm n (upB b u (rmL (b u) i)):=by
 refine⟨h.g.rm u i,?_⟩
 have z:=manyX_up 64 b u (rmL (b u) i) hu
 have:=rmL_le (b u) i
 have:=h.m
 omega
theorem Gm.rms {n:Nat}:∀(m:List Bs) {b:Bxs},Gm n b→∀{u:Nat},u < 64→Gm n (upB b u (rms (b u) m))
 | [],b,h,u,_=>by rw[Bx.rms,upB_self];exact h
 | i::m,b,h,u,hu=>by
  have z:=Gm.rms m (h.rm hu i) hu
  rw[upB_same,upB_upB] at z
  exact z
theorem Gm.tk {n:Nat} {b c:Bxs} (h:Gm n b) {r:Bs} (e:tkX b r=some c):Gm (n+1) c:=by
 refine⟨h.g.tk e,?_⟩
 unfold tkX at e
 by_cases h1:low r=true
 ·rw[if_pos h1] at e
  have hu:rU r < 64:=by unfold low at h1;simp at h1;exact h1.2
  have hm:=h.m
  by_cases h2:isP (b (rU r)) r=true
  ·rw[if_pos h2] at e
   cases e
   have z:=manyX_up 64 b (rU r) (b (rU r)++[(rI r,rT r)]) hu
   rw[List.length_append,List.length_singleton] at z
   omega
  ·rw[if_neg h2] at e
   by_cases h3:isA (b (rU r)) r=true
   ·rw[if_pos h3] at e
    cases e
    exact Nat.le_trans (h.rm hu _).m (Nat.le_succ _)
   ·rw[if_neg h3] at e;cases e
 ·rw[if_neg h1] at e;cases e
theorem Gm.tks:∀(l:List Bs) {n:Nat} {b c:Bxs},Gm n b→tksX b l=some c→Gm (n+l.length) c
 | [],_,_,_,h,e=>by cases e;exact h
 | r::l,n,b,c,h,e=>by
  rw[tksX] at e
  cases h1:tkX b r with
  | none=>rw[h1] at e;cases e
  | some a =>
   rw[h1] at e
   have z:=Gm.tks l (h.tk h1) e
   rw[List.length_cons]
   exact z.mono (by omega)
theorem Gm.nil:Gm 0 fun _=>[]:=⟨Gx.nil,by decide⟩
theorem noU_lt {u:Int} (h:¬noU u=true):0≤u∧u < 64∧u.toNat < 64:=by
 unfold noU at h
 simp at h
 omega
theorem gm_wrX {n:Nat} {s:St} {x:Lo} {b c:Bxs} (h:Gm n b) (k:Gm n c) (rs:List Bs):Gm n (wrX s x b c rs).2:=by
 unfold wrX
 by_cases c1:(apX s x rs).1.1=151
 ·simp only[if_pos c1]
  split <;> assumption
 ·simp only[if_neg c1]
  by_cases c2:(apX s x rs).1.1≠0
  ·simp only[if_pos c2]
   exact h
  ·simp only[if_neg c2]
   split <;> assumption
theorem gm_puX {n q:Nat} {s:St} {x:Lo} {b:Bxs} (h:Gm n b) (u:Int) (i t:Bs):Gm (n+1) (puX q s x b u i t).2:=by
 have up:=h.mono (Nat.le_succ n)
 unfold puX
 split
 ·exact up
 ·rename_i h1
  split
  ·exact up
  ·rename_i h2
   split
   ·exact up
   ·rename_i h3
    split
    ·exact up
    ·rename_i h4
     split
     ·exact up
     ·exact gm_wrX up (h.put (noU_lt h1).2.2 (by simpa using h2) (by omega) h4) _
theorem gm_akX {n:Nat} {s:St} {x:Lo} {b:Bxs} (h:Gm n b) (u:Int) (m:List Bs):Gm n (akX s x b u m).2.2:=by
 unfold akX
 split
 ·exact h
 ·rename_i h1
  split
  ·exact h
  ·split
   ·exact h
   ·split
    ·exact h
    ·exact gm_wrX h (Gm.rms m h (noU_lt h1).2.2) _
theorem gm_opX {q:Int} {s:St} {o:(Int×St)×Lo} {x:Lo} {b:Bxs} (h:(opX q s o).2=some (x,b)):Gm x.ts.length b∧x=o.2∧o.1.1=0∧1≤q∧q≤256:=by
 unfold opX at h
 split at h
 ·cases h
 ·rename_i h1
  split at h
  ·cases h
  ·rename_i h2
   split at h
   ·cases h
   ·rename_i c hc
    cases h
    have z:=Gm.tks _ Gm.nil hc
    rw[Nat.zero_add] at z
    exact⟨z,rfl,by simpa using h2,by omega,by omega⟩
theorem shX_len (b:Bxs):(shX b).length=manyX b 64:=by
 have h:∀n,((List.range n).flatMap fun u=>(b u).map fun e=>putR u e.1 e.2).length=manyX b n:=by
  intro n
  induction n with
  | zero=>rfl
  | succ n ih =>
   rw[List.range_succ,List.flatMap_append,List.length_append,ih,manyX]
   simp
 exact h 64
theorem ofE_many:∀(E:List En),(∀e∈E,e.1 < 64)→manyX (ofE E) 64=E.length
 | [],_=>by decide
 | e::E,h=>by
  have hu:=h e (List.mem_cons_self ..)
  have ih:=ofE_many E (fun x hx=>h x (List.mem_cons_of_mem _ hx))
  have eq:ofE (e::E)=upB (ofE E) e.1 (e.2::ofE E e.1):=by
   funext v
   rw[ofE_cons]
   by_cases c:e.1=v
   ·rw[if_pos c,←c,upB_same]
   ·rw[if_neg c,upB_other _ _ (fun d=>c d.symm)]
  have z:=manyX_up 64 (ofE E) e.1 (e.2::ofE E e.1) hu
  rw[List.length_cons] at z
  rw[eq,List.length_cons]
  omega
end Go.Proofs.YtjpaodepnacimaaGreatDoor
