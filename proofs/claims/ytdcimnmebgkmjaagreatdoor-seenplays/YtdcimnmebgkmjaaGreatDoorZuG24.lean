/- Parts: LzA,SrA. -/
import Derived.Test.YtdcimnmebgkmjaaGreatDoorZuG23
namespace Go.Proofs.YtdcimnmebgkmjaaGreatDoor
open Go.RowKit Go.Proofs.Fd Go.Proofs.Dk Go.Proofs.Lg
set_option maxRecDepth 20000
theorem bgn_len (s:St) (k H g:Nat) (ts:List Bs):(bgn s k H g ts).2.l.length≤s.l.length+H+sns ts+1:=by
 unfold bgn
 have c:=cln_len s k H
 by_cases h1:(cln s k H).1=0
 ·rw[thn_ok h1]
  have p:=pts_len ts (cln s k H).2 k 1 (hm g)
  by_cases h2:(pts (cln s k H).2 k 1 (hm g) ts).1=0
  ·rw[thn_ok h2]
   have q:=syS_len (pts (cln s k H).2 k 1 (hm g) ts).2
   by_cases h3:syE (pts (cln s k H).2 k 1 (hm g) ts).2=0
   ·rw[thn_ok h3]
    have r:=wrb_len (syS (pts (cln s k H).2 k 1 (hm g) ts).2) k (hd g)
    rw[hd_len] at r
    by_cases h4:(wrb (syS (pts (cln s k H).2 k 1 (hm g) ts).2) k (hd g)).1=0
    ·rw[thn_ok h4]
     have t:=syS_len (wrb (syS (pts (cln s k H).2 k 1 (hm g) ts).2) k (hd g)).2
     show (syS _).l.length≤_
     omega
    ·rw[thn_no h4];omega
   ·rw[thn_no h3]
    show (syS _).l.length≤_
    omega
  ·rw[thn_no h2];omega
 ·rw[thn_no h1];omega
theorem app_len (s:St) (x:Lo) (t:Bs):(app s x t).1.2.l.length≤s.l.length+40∧(app s x t).1.2.n=s.n:=by
 unfold app
 by_cases h1:may t≠0
 ·rw[if_pos h1];exact⟨Nat.le_add_right _ _,rfl⟩
 ·rw[if_neg h1]
  by_cases h2:s.n / 2 < x.tk+sn t
  ·rw[if_pos h2];exact⟨Nat.le_add_right _ _,rfl⟩
  ·rw[if_neg h2]
   have r:=wrb_len s (x.h*(s.n / 2)+x.tk) (rcd x.mr t)
   rw[rcd_len] at r
   have hok:=may_ok (by simpa using h1)
   have hsn:sn t≤40:=by unfold sn;omega
   exact⟨by show (wrb _ _ _).2.l.length≤_;omega,wrb_n _ _ _⟩
theorem cmp_len (s:St) (x:Lo) (ts:List Bs):(cmp s x ts).1.2.l.length≤s.l.length+s.n+1∧(cmp s x ts).1.2.n=s.n:=by
 unfold cmp
 by_cases h1:mays ts≠0
 ·rw[if_pos h1];exact⟨by show s.l.length≤_;omega,rfl⟩
 ·rw[if_neg h1]
  by_cases h2:s.n / 2 - 1 < sns ts
  ·rw[if_pos h2];exact⟨by show s.l.length≤_;omega,rfl⟩
  ·rw[if_neg h2]
   by_cases h3:2147483647≤x.g
   ·rw[if_pos h3];exact⟨by show s.l.length≤_;omega,rfl⟩
   ·rw[if_neg h3]
    have:=bgn_len s ((1 - x.h)*(s.n / 2)) (s.n / 2) (x.g+1) ts
    exact⟨by show (bgn _ _ _ _ _).2.l.length≤_;omega,bgn_n _ _ _ _ _⟩
theorem wrE_151 (s:St) (k:Int) (t:Bs):wrE s k t≠151:=by
 unfold wrE rch
 repeat' split
 all_goals decide
theorem wrs_151:∀(bs:List Bs) (s:St) (k:Nat),(wrs s k bs).1≠151
 | [],_,_=>by show (0:Int)≠151;decide
 | b::bs,s,k=>by
  rw[wrs]
  by_cases h:wrE s (k:Int) b=0
  ·rw[thn_ok h]
   exact wrs_151 bs _ _
  ·rw[thn_no h]
   exact wrE_151 _ _ _
theorem app_151 {s:St} {x:Lo} {r:Bs} (h:(app s x r).1.1=151):app s x r=((151,s),x):=by
 unfold app at h ⊢
 by_cases h1:may r≠0
 ·rw[if_pos h1] at h
  exfalso
  revert h
  show may r=151→False
  unfold may
  repeat' split
  all_goals decide
 ·rw[if_neg h1] at h ⊢
  by_cases h2:s.n / 2 < x.tk+sn r
  ·rw[if_pos h2]
  ·rw[if_neg h2] at h
   exact absurd h (wrs_151 _ _ _)
theorem rben4 (n:Nat):ben n 4=[UInt8.ofNat (n / 16777216),UInt8.ofNat (n / 65536),UInt8.ofNat (n / 256),UInt8.ofNat n]:=by
 show [UInt8.ofNat (n / 2 ^ 24),UInt8.ofNat (n / 2 ^ 16),UInt8.ofNat (n / 2 ^ 8),UInt8.ofNat (n / 2 ^ 0)]=_
 rw[show n / 2 ^ 0=n by simp]
structure Lz (w wr:World) (p:Nat) (F:Nat→Prop) (s:St) (q:Nat) (v:Value) (x:Lo):Prop where
 hd_:HD w wr p F s q (x.h*(s.n / 2)) (s.n / 2) x.g v x.ts x.tk x.mr []
 h1:x.h≤1
 n4:4≤s.n
 n2:s.n≤1024
 tk:x.tk≤s.n / 2
 ok:∀t∈x.ts,1≤t.length∧t.length≤2000
 g:x.g≤2147483647
section
variable {w wr:World} {p:Nat} {F:Nat→Prop} {s:St} {q:Nat} {v:Value} {x:Lo}
theorem Lz.later (h:Lz w wr p F s q v x) {w':World} (hb:Below wr.heap.size wr w'):Lz w w' p F s q v x:=⟨h.hd_.later hb,h.h1,h.n4,h.n2,h.tk,h.ok,h.g⟩
theorem Lz.tlen (h:Lz w wr p F s q v x):x.ts.length≤512:=by
 have h1:=tkn_ge_len x.ts
 have h2:tkn 1 x.ts≤s.n / 2:=h.tk
 have h3:=h.n2
 omega
theorem Lz.fh (h:Lz w wr p F s q v x) {y:Nat} (hy:FH F q v y):y < wr.heap.size∧w.heap.size≤y:=by
 rcases hy with e|e
 ·exact⟨h.hd_.dl.at_.lt e,h.hd_.dl.new y e⟩
 ·exact⟨h.hd_.hf.lt e,(h.hd_.ap y e).2⟩
theorem Lz.other (h:Lz w wr p F s q v x) {w':World} {G:Nat→Prop} (hb:Bf G wr w') (hG:∀y,FH F q v y→¬G y) (hw:∀y,G y→w.heap.size≤y):Lz w w' p F s q v x :=
 ⟨⟨⟨h.hd_.dl.at_.other hb (fun y hy=>hG y (.inl hy)),h.hd_.dl.new,h.hd_.dl.below.trans (hb.below hw h.hd_.dl.below.size)⟩,h.hd_.hf.bf hb (fun y hy=>hG y (.inr hy)),h.hd_.ap⟩,h.h1,h.n4,h.n2,h.tk,h.ok,h.g⟩
theorem Lz.fr (h:Lz w wr p F s q v x):x.h*(s.n / 2)≤512:=by
 have:=h.n2
 rcases (by have:=h.h1;omega:x.h=0∨x.h=1) with e|e
 ·rw[e,Nat.zero_mul];omega
 ·rw[e,Nat.one_mul];omega
end
def LzP (w wr:World) (p:Nat) (F:Nat→Prop) (q:Nat) (v:Value) (s:St) (x:Lo) (w':World):Prop:=∃F' v',Lz w w' p F' s q v' x∧Nx2 wr F q v F' v'∧Bf (FH F q v) wr w'
theorem lzappend_any (w wr:World) (p:Nat) (F:Nat→Prop) (s:St) (q:Nat) (v:Value) (x:Lo) (X:ByteArray) (hl:s.l.length+100≤1000000) (hk:Kh w) (h:Lz w wr p F s q v x) :
  Calls Tryz.prog 21 #[.pointer (some ⟨q,0,none⟩),.string X] wr fun e w'=>e = .returned (.int .i64 (app s x X.data.toList).1.1)∧LzP w wr p F q v (app s x X.data.toList).1.2 (app s x X.data.toList).2 w':=by
 have hn2:=h.n2
 have hfr:=h.fr
 have e1:(app s x X.data.toList).1=apR s (x.h*(s.n / 2)) (s.n / 2) x.tk x.mr X.data.toList:=by
  unfold app apR
  by_cases h1:may X.data.toList≠0
  ·rw[if_pos h1,if_pos h1]
  ·rw[if_neg h1,if_neg h1]
   by_cases h2:s.n / 2 < x.tk+sn X.data.toList
   ·rw[if_pos h2,if_pos h2]
   ·rw[if_neg h2,if_neg h2]
 have hlen:=app_len s x X.data.toList
 refine (lappend_any w wr p F s q (x.h*(s.n / 2)) (s.n / 2) x.g v x.ts x.tk x.mr X (mks_len _ _ rfl) (by have:=h.tlen;omega) h.tk (by omega) (by omega) hl hk h.hd_).mono ?_
 rintro e w' ⟨he,F',v',n1,b1,hh⟩
 rw[e1]
 refine⟨he,F',v',?_,n1,b1⟩
 rw[e1] at hlen
 obtain⟨t,ht⟩:∃t,X.data.toList=t:=⟨_,rfl⟩
 rw[ht] at e1 hh hlen ⊢
 have hsn:(apR s (x.h*(s.n / 2)) (s.n / 2) x.tk x.mr t).2.n=s.n:=hlen.2
 rcases hh with ⟨c0,hh⟩|⟨c0,hh⟩
 ·have h1:may t=0:=by
   by_cases c:may t=0
   ·exact c
   ·exfalso
    unfold apR at c0
    rw[if_pos c] at c0
    exact c c0
  have h2:¬s.n / 2 < x.tk+sn t:=fun c=>by
   unfold apR at c0
   rw[if_neg (by rw[h1];simp),if_pos c] at c0
   cases c0
  have e2:(app s x t).2=⟨x.h,x.g,x.ts++[t]⟩:=by
   have c0':(wrb s (x.h*(s.n / 2)+x.tk) (rcd x.mr t)).1=0:=by
    unfold apR at c0
    rw[if_neg (by rw[h1];simp),if_neg h2] at c0
    exact c0
   unfold app
   rw[if_neg (by rw[h1];simp),if_neg h2]
   show (if (wrb s (x.h*(s.n / 2)+x.tk) (rcd x.mr t)).1=0 then _ else _)=_
   rw[if_pos c0']
  have et:(⟨x.h,x.g,x.ts++[t]⟩:Lo).tk=x.tk+sn t:=tkn_app x.ts 1 _
  have em:(⟨x.h,x.g,x.ts++[t]⟩:Lo).mr=rmk x.mr t:=mks_app x.ts (hm x.g) _
  rw[e2]
  refine⟨?_,h.h1,by rw[hsn];exact h.n4,by rw[hsn];exact h.n2,by rw[et,hsn];omega,fun u hu => ?_,h.g⟩
  ·rw[et,em,hsn]
   exact hh
  ·rcases List.mem_append.1 hu with hu|hu
   ·exact h.ok u hu
   ·rw[List.mem_singleton] at hu
    subst hu
    exact may_ok h1
 ·have e2:(app s x t).2=x:=by
   unfold app
   by_cases h1:may t≠0
   ·rw[if_pos h1]
   ·rw[if_neg h1]
    by_cases h2:s.n / 2 < x.tk+sn t
    ·rw[if_pos h2]
    ·rw[if_neg h2]
     have c0':(wrb s (x.h*(s.n / 2)+x.tk) (rcd x.mr t)).1≠0:=by
      unfold apR at c0
      rw[if_neg h1,if_neg h2] at c0
      exact c0
     show (if (wrb s (x.h*(s.n / 2)+x.tk) (rcd x.mr t)).1=0 then _ else _)=_
     rw[if_neg c0']
  rw[e2]
  exact⟨by rw[hsn];exact hh,h.h1,by rw[hsn];exact h.n4,by rw[hsn];exact h.n2,by rw[hsn];exact h.tk,h.ok,h.g⟩
theorem lzcompact_any (w wr:World) (p:Nat) (F:Nat→Prop) (s:St) (q:Nat) (v:Value) (x:Lo) (a:Option Addr) (n c:Nat) (us:List Bs) (hn:us.length=n) (hnb:n≤10000000000000) (hl:s.l.length+4000≤1000000) (hk:Kh w) (h:Lz w wr p F s q v x) (tx:TxAt wr a us) (ap:Ap a us F) :
  Calls Tryz.prog 38 #[.pointer (some ⟨q,0,none⟩),.slice a n c] wr fun e w'=>e = .returned (.int .i64 (cmp s x us).1.1)∧LzP w wr p F q v (cmp s x us).1.2 (cmp s x us).2 w':=by
 have hn2:=h.n2
 have hn4:=h.n4
 have h01:x.h=0∨x.h=1:=by have:=h.h1;omega
 have e2:s.n / 2 - x.h*(s.n / 2)=(1 - x.h)*(s.n / 2):=by
  rcases h01 with e|e
  ·rw[e,Nat.zero_mul,Nat.sub_zero,Nat.sub_zero,Nat.one_mul]
  ·rw[e,Nat.one_mul,Nat.sub_self,Nat.sub_self,Nat.zero_mul]
 have e1:(cmp s x us).1=cmR s ((1 - x.h)*(s.n / 2)) (s.n / 2) x.g us:=by
  unfold cmp cmR
  by_cases h1:mays us≠0
  ·rw[if_pos h1,if_pos h1]
  ·rw[if_neg h1,if_neg h1]
   by_cases h2:s.n / 2 - 1 < sns us
   ·rw[if_pos h2,if_pos h2]
   ·rw[if_neg h2,if_neg h2]
    by_cases h3:2147483647≤x.g
    ·rw[if_pos h3,if_pos h3]
    ·rw[if_neg h3,if_neg h3]
 have hlen:=cmp_len s x us
 refine (lcompact_any w wr p F s q (x.h*(s.n / 2)) (s.n / 2) x.g v x.ts x.tk x.mr a n c us hn (by omega) (by omega) (by omega) h.g (by rcases h01 with e|e;exact .inl (by rw[e,Nat.zero_mul]);exact .inr (by rw[e,Nat.one_mul])) (by omega) hk h.hd_ tx ap).mono ?_
 rintro e w' ⟨he,F',v',n1,b1,hh⟩
 rw[e2,←e1] at he hh
 refine⟨he,F',v',?_,n1,b1⟩
 have hsn:(cmp s x us).1.2.n=s.n:=hlen.2
 rcases hh with ⟨c0,hh⟩|⟨c0,hh⟩
 ·have h1:¬mays us≠0:=fun c=>by
   unfold cmp at c0
   rw[if_pos c] at c0
   exact c c0
  have h2:¬s.n / 2 - 1 < sns us:=fun c=>by
   unfold cmp at c0
   rw[if_neg h1,if_pos c] at c0
   cases c0
  have h3:¬2147483647≤x.g:=fun c=>by
   unfold cmp at c0
   rw[if_neg h1,if_neg h2,if_pos c] at c0
   cases c0
  have e3:(cmp s x us).2=⟨1 - x.h,x.g+1,us⟩:=by
   have c0':(bgn s ((1 - x.h)*(s.n / 2)) (s.n / 2) (x.g+1) us).1=0:=by
    unfold cmp at c0
    rw[if_neg h1,if_neg h2,if_neg h3] at c0
    exact c0
   unfold cmp
   rw[if_neg h1,if_neg h2,if_neg h3]
   show (if (bgn s ((1 - x.h)*(s.n / 2)) (s.n / 2) (x.g+1) us).1=0 then _ else _)=_
   rw[if_pos c0']
  rw[e3]
  refine⟨by rw[hsn];exact hh,by show 1 - x.h≤1;omega,by rw[hsn];exact h.n4,by rw[hsn];exact h.n2,?_,mays_all (by simpa using h1),by show x.g+1≤_;omega⟩
  rw[hsn]
  show tkn 1 us≤_
  rw[tkn_sns]
  omega
 ·have e3:(cmp s x us).2=x:=by
   unfold cmp
   by_cases h1:mays us≠0
   ·rw[if_pos h1]
   ·rw[if_neg h1]
    by_cases h2:s.n / 2 - 1 < sns us
    ·rw[if_pos h2]
    ·rw[if_neg h2]
     by_cases h3:2147483647≤x.g
     ·rw[if_pos h3]
     ·rw[if_neg h3]
      have c0':(bgn s ((1 - x.h)*(s.n / 2)) (s.n / 2) (x.g+1) us).1≠0:=by
       unfold cmp at c0
       rw[if_neg h1,if_neg h2,if_neg h3] at c0
       exact c0
      show (if (bgn s ((1 - x.h)*(s.n / 2)) (s.n / 2) (x.g+1) us).1=0 then _ else _)=_
      rw[if_neg c0']
  rw[e3]
  exact⟨by rw[hsn];exact hh,h.h1,by rw[hsn];exact h.n4,by rw[hsn];exact h.n2,by rw[hsn];exact h.tk,h.ok,h.g⟩
theorem lzsync_any (w wr:World) (p:Nat) (F:Nat→Prop) (s:St) (q:Nat) (v:Value) (x:Lo) (hl:s.l.length≤1000000) (h:Lz w wr p F s q v x) :
  Calls Tryz.prog 22 #[.pointer (some ⟨q,0,none⟩)] wr fun e w'=>e = .returned (.int .i64 (syE s))∧LzP w wr p F q v (syS s) x w':=by
 refine (lsyncl_any w wr p F s q _ _ x.g v x.ts x.tk x.mr [] hl h.hd_).mono ?_
 rintro e w' ⟨he,F',d1,d2,d3⟩
 have hn:=syS_n s
 exact⟨he,F',v,⟨by rw[hn];exact h.hd_.disk d1 d2 d3,h.h1,by rw[hn];exact h.n4,by rw[hn];exact h.n2,by rw[hn];exact h.tk,h.ok,h.g⟩,⟨d2,Nx.refl _ _⟩,d3.wide fun _ c => .inl c⟩
theorem lopen_all (w w0:World) (p:Nat) (F0:Nat→Prop) (s:St) (hl:s.l.length+2000≤1000000) (hk:Hid (Kh w)) (D:Hid (Dl w w0 p F0 s)) :
  Calls Tryz.prog 20 #[.pointer (some ⟨p,0,none⟩)] w0 fun e w'=>OpP w w0 p F0 (s.n / 2) (opn s).1 (opn s).2 e w':=by
 by_cases h:s.n / 2 < 2
 ·have e:opn s=((4,s),⟨0,0,[]⟩):=by unfold opn;rw[if_pos h]
  rw[e]
  refine (lopen_small w w0 p F0 s h D).mono ?_
  rintro e w' ⟨he,rfl⟩
  exact⟨F0,D.out,Nx.refl _ _,Bf.refl _ _,.inr ⟨(show (4:Int)≠0 by decide),he⟩⟩
 ·exact lopen_any w w0 p F0 s (by omega) hl hk D
theorem opn_ok {s:St} (h:(opn s).1.1=0) (hOk:Ok s):4≤s.n∧(opn s).2.h≤1∧(opn s).1.2.n=s.n∧(opn s).2.tk≤s.n / 2∧(opn s).2.g≤2147483647∧∀t∈(opn s).2.ts,1≤t.length∧t.length≤2000:=by
 have og:=opn_le s
 unfold opn at h og ⊢
 by_cases h1:s.n / 2 < 2
 ·rw[if_pos h1] at h;cases h
 ·rw[if_neg h1] at h og ⊢
  by_cases h2:s.down=true
  ·rw[if_pos h2] at h;cases h
  ·rw[if_neg h2] at h og ⊢
   by_cases h3:(use s).2=0
   ·rw[if_pos h3] at og ⊢
    exact⟨by omega,by show (0:Nat)≤1;decide,bgn_n _ _ _ _ _,by show 1≤s.n / 2;omega,og,nofun⟩
   ·rw[if_neg h3] at og ⊢
    have hl:((hb s ((use s).1*(s.n / 2)) (s.n / 2)).drop 64).length=64*(s.n / 2 - 1):=by rw[List.length_drop,hb_len hOk];omega
    have hfit:=scan_fits.scan_le 0 [] (s.n / 2) (s.n / 2 - 1) ((hb s ((use s).1*(s.n / 2)) (s.n / 2)).drop 64) (hm (use s).2) 1 hl
    refine⟨by omega,?_,cln_n _ _ _,?_,og,fun t ht=>scan_fits.scan_ok _ _ _ t ht⟩
    ·show (use s).1≤1
     unfold use
     split
     ·exact Nat.le_refl 1
     ·exact Nat.zero_le 1
    ·show tkn 1 (recs s _ _ _)≤s.n / 2
     unfold recs
     omega
end Go.Proofs.YtdcimnmebgkmjaaGreatDoor
namespace Go.Proofs.YtdcimnmebgkmjaaGreatDoor
open Go.RowKit Go.Proofs.Fd Go.Proofs.Dk Go.Proofs.Lg
set_option maxRecDepth 20000
abbrev Hx:=Bs×Int
def hx1 (x:Hx):List Value:=[sv x.1,.int .i64 x.2]
def hxs2:List Hx→List Value
 | []=>[]
 | x::l=>hx1 x++hxs2 l
theorem hxs2_app:∀l m:List Hx,hxs2 (l++m)=hxs2 l++hxs2 m
 | [],_=>rfl
 | t::l,m=>by rw[List.cons_append,hxs2,hxs2_app l m,hxs2,List.append_assoc]
theorem hxs2_len:∀l:List Hx,(hxs2 l).length=l.length*2
 | []=>rfl
 | t::l=>by rw[hxs2,List.length_append,hxs2_len l,List.length_cons,hx1];simp;omega
theorem hxs2_one:∀(l:List Hx),∀u∈hxs2 l,u.oneCell'=true
 | [],u,h=>by cases h
 | t::l,u,h=>by
  rw[hxs2,List.mem_append] at h
  rcases h with h|h
  ·simp only[hx1,List.mem_cons,List.not_mem_nil,or_false] at h
   rcases h with rfl|rfl <;> rfl
  ·exact hxs2_one l u h
theorem hxs2_get:∀(l:List Hx) (i:Nat) (hi:i < l.length),(hxs2 l)[i*2]?=some (sv l[i].1)∧(hxs2 l)[i*2+1]?=some (.int .i64 l[i].2)
 | [],i,hi=>absurd hi (Nat.not_lt_zero _)
 | t::l,0,_=>⟨rfl,rfl⟩
 | t::l,i+1,hi=>by
  have ih:=hxs2_get l i (by simpa using hi)
  rw[show (i+1)*2=i*2+2 by omega]
  exact ih
abbrev OwnsH (w:World) (v:Value) (l:List Hx):Prop:=w.ownsRow 0 96 2 v l.length (hxs2 l)
theorem infoH:(Tryz.prog.info? 96).map (fun i=>(i.zero,i.size,i.bytes))=some (some (.agg #[.string ⟨#[]⟩,.int .i64 0]),2,24):=by kernel_rfl
theorem ownsH_slice {w:World} {v:Value} {l:List Hx} (h:OwnsH w v l):∃a c,v = .slice a l.length c:=by
 rcases h.2 with ⟨rfl,h2⟩|⟨g,cap,cur,rfl,-⟩
 ·exact⟨_,_,by rw[h2]⟩
 ·exact⟨_,_,rfl⟩
theorem ownsH_cells {w:World} {va:Option Addr} {n c:Nat} {l:List Hx} (h:OwnsH w (.slice va n c) l) (i:Nat) (hi:i < l.length):∃g,va=some ⟨g,0,none⟩∧(Value.slice va n c).ownBlock=some g∧w.cell? ⟨g,i*2,none⟩=some (sv l[i].1)∧w.cell? ⟨g,i*2+1,none⟩=some (.int .i64 l[i].2):=by
 rcases h.2 with ⟨h1,h2⟩|⟨g,cap,cur,h1,-⟩
 ·omega
 ·have h1':=h1
  injection h1' with e1 e2 e3
  subst e1
  subst e2
  obtain⟨a1,a2⟩:=hxs2_get l i hi
  exact⟨g,rfl,rfl,by rw[h.cellAt _ (by omega),a1],by rw[h.cellAt _ (by omega),a2]⟩
theorem owns_nilH (w:World):OwnsH w (.slice none 0 0) []:=World.ownsRow_nil _ _ _ _
abbrev rsc (q most ep:Nat) (v:Value):List Value:=[.pointer (some ⟨q,0,none⟩),.int .i64 (most:Int),.int .i64 (ep:Int),v]
structure Rs (w:World) (b q most ep:Nat) (v:Value) (l:List Hx):Prop where
 bk:Blk w b (rsc q most ep v)
 row:OwnsH w v l
 bv:v.ownBlock≠some b
section
variable {w:World} {b q most ep:Nat} {v:Value} {l:List Hx}
theorem Rs.lt (h:Rs w b q most ep v l) {x:Nat} (hx:HFt b v x):x < w.heap.size:=by
 rcases hx with rfl|e
 ·exact h.bk.lt
 ·exact (h.row.lt x e).2
theorem Rs.same (h:Rs w b q most ep v l) {w':World} (hs:∀x,HFt b v x→w'.heap[x]?=w.heap[x]?):Rs w' b q most ep v l :=
 ⟨h.bk.same (hs b (.inl rfl)),ownsRow_same h.row (fun x e=>hs x (.inr e)),h.bv⟩
theorem Rs.later (h:Rs w b q most ep v l) {w':World} (hb:Below w.heap.size w w'):Rs w' b q most ep v l:=h.same fun x hx=>hb.block x (h.lt hx)
theorem Rs.bf (h:Rs w b q most ep v l) {F:Nat→Prop} {w':World} (hb:Bf F w w') (hF:∀x,HFt b v x→¬F x):Rs w' b q most ep v l:=h.same fun x hx=>hb.block x (h.lt hx) (hF x hx)
theorem Rs.row' (h:Rs w b q most ep v l) {w1:World} (hb:Below w.heap.size w w1) {u:Value} {m:List Hx} (ho:OwnsH w1 u m) (hu:∀x,u.ownBlock=some x→w.heap.size≤x) :
  Rs (w1.setCell ⟨b,3,none⟩ u) b q most ep u m∧Bf (HFt b v) w (w1.setCell ⟨b,3,none⟩ u)∧Nx w (HFt b v) (HFt b u):=by
 have hq:=h.bk.lt
 have nq:u.ownBlock≠some b:=fun e=>by have:=hu b e;omega
 refine⟨⟨(h.bk.later hb).set 3 (show 3 < 4 by decide) u,ownsRow_same ho (fun x e=>Below.heap_setCell w1 ⟨b,3,none⟩ u x (fun c=>nq (by rw[e,c]))),nq⟩,bf_set (Bf.of hb) (.inl rfl),fun y hy => ?_⟩
 rcases hy with e|e
 ·exact .inl (.inl e)
 ·exact .inr (hu y e)
theorem Rs.ep' (h:Rs w b q most ep v l) (k:Nat):Rs (w.setCell ⟨b,2,none⟩ (.int .i64 (k:Int))) b q most k v l∧Bf (HFt b v) w (w.setCell ⟨b,2,none⟩ (.int .i64 (k:Int))) :=
 ⟨⟨h.bk.set 2 (show 2 < 4 by decide) _,ownsRow_same h.row (fun x e=>Below.heap_setCell w ⟨b,2,none⟩ _ x (fun c=>h.bv (by rw[e,c]))),h.bv⟩,Bf.set _ w b 2 _ (.inl rfl)⟩
end
set_option maxHeartbeats 1000000 in
theorem rshas_any (b q most ep:Nat) (v:Value) (l:List Hx) (hn:l.length≤100000) (X:ByteArray) (w:World) (h:Hid (Rs w b q most ep v l)) :
  Calls Tryz.prog 50 #[.pointer (some ⟨b,0,none⟩),.string X] w fun e w'=>e = .returned (.bool (decide (X.data.toList∈l.map (·.1))))∧w'=w:=by
 obtain⟨va,vc,rfl⟩:=ownsH_slice h.out.row
 have k3:=h.out.bk.c 3 _ rfl
 obtain⟨n,hnn⟩:∃n,l.length=n:=⟨_,rfl⟩
 have HN:Hid (l.length=n):=hnn
 have CS:Hid (∀i (hi:i < l.length),∃g,va=some ⟨g,0,none⟩∧w.cell? ⟨g,i*2,none⟩=some (sv l[i].1)):=fun i hi=>by
  obtain⟨g,e1,-,e2,-⟩:=ownsH_cells h.out.row i hi
  exact⟨g,e1,e2⟩
 rw[hnn] at k3 hn
 clear h hnn
 go_enter Tryz.func50, Tryz.ntmps50
 go_wp2
 go_loopw [5] (fun i wr=>∃k:Nat,k≤n∧i = .int .i64 (k:Int)∧Hid (X.data.toList ∉ (l.take k).map (·.1))∧w=wr) (fun i _=>n - (intOf i).toNat)
 case atStart=>exact⟨0,Nat.zero_le _,rfl,(by rw[List.take_zero];exact List.not_mem_nil),rfl⟩
 case round =>
  obtain⟨k,hk,rfl,J,rfl⟩:=hrel
  by_cases hlt:k < n
  ·have hkl:k < l.length:=by rw[HN.out];exact hlt
   have g1:(k:Int) < (n:Int):=by omega
   obtain⟨g,rfl,c1⟩:=CS.out k hkl
   have ET:Hid (l.take (k+1)=l.take k++[l[k]]):=List.take_succ_eq_append_getElem hkl
   have EM:Hid (l[k].1∈l.map (·.1)):=List.mem_map_of_mem (List.getElem_mem hkl)
   obtain⟨⟨t,e⟩,ht⟩:∃t,l[k]=t:=⟨_,rfl⟩
   rw[ht] at c1 ET EM
   unfold sv at c1
   clear ht
   by_cases he:X=st t
   ·have c2:w.cell? ⟨g,k*2,none⟩=some (.string X):=by rw[he];exact c1
    have EM2:Hid (X.data.toList∈l.map (·.1)):=by rw[he];exact EM.out
    clear he c1 J ET EM
    go_wp2
    go_ret
    exact⟨by rw[decide_eq_true EM2.out];rfl,rfl⟩
   ·have HE:Hid (X.data.toList≠t):=fun c=>he (by rw[←c];rfl)
    have hne:((st t).toList == X.toList)=false:=by
     rw[ByteArray.toList_eq,ByteArray.toList_eq]
     exact beq_eq_false_iff_ne.2 (Ne.symm HE.out)
    obtain⟨T,hT⟩:∃T,st t=T:=⟨_,rfl⟩
    rw[hT] at c1 hne
    clear hT he
    go_wp2
    go_roundw
    case rel=>exact⟨k+1,by omega,rfl,(by rw[ET.out,List.map_append];intro c;rcases List.mem_append.1 c with c|c;exact J.out c;exact HE.out (List.mem_singleton.1 c)),by first|rfl|trivial⟩
    case measure=>simp[intOf];omega
  ·have g1:¬(k:Int) < (n:Int):=by omega
   have HF:Hid (X.data.toList ∉ l.map (·.1)):=by
    have:=J.out
    rw[List.take_of_length_le (show l.length≤k by rw[HN.out];omega)] at this
    exact this
   clear J
   go_wp2
   go_ret
   exact⟨by rw[decide_eq_false HF.out];rfl,by first|rfl|trivial⟩
end Go.Proofs.YtdcimnmebgkmjaaGreatDoor
