/- A part of the walk. -/
import Derived.Test.YtjcppbhgjchjaaaGreatDoorZr3G29
set_option maxHeartbeats 8000000
set_option maxRecDepth 20000
namespace Go.Proofs.Lg
open Go.Proofs.Dk
abbrev up (n:Nat) (f:Nat->Bs) (l:List Wt):St:=⟨n,f,l,0,false⟩
theorem zru {n:Nat} {f:Nat->Bs} {l:List Wt} {k:Nat} (hk:k < n):rch (up n f l) (k:Int)=0:=by
 unfold rch;rw[if_neg (by simp),if_neg (by show ¬((k:Int) < 0\/(n:Int)<=(k:Int));omega)]
theorem zsc {n:Nat} {f:Nat->Bs} {l:List Wt} {k:Nat} (hk:k < n) {t:Bs} (ht:t.length=64):wrE (up n f l) (k:Int) t=0/\wrS (up n f l) (k:Int) t=up n f (l++[⟨k,t⟩]):=by
 have hr:=zru (f:=f) (l:=l) hk;constructor
 ·unfold wrE
  rw[if_neg (by rw[hr];decide),if_neg (by rw[ht];decide),if_neg (by show ¬(0:Nat)=1;decide)]
 ·unfold wrS
  rw[if_neg (by rw[hr];decide),if_neg (by rw[ht];decide),if_neg (by show ¬(0:Nat)=1;decide)];rfl
theorem zrv (n:Nat) (f:Nat->Bs) (l:List Wt):syE (up n f l)=0/\syS (up n f l)=up n (lay f l) []:=⟨rfl,rfl⟩
theorem zdv:∀(l:List Wt) (f:Nat->Bs) (m:List Wt),lay f (l++m)=lay (lay f l) m
 | [],_,_=>rfl
 | x::l,f,m=>by rw[List.cons_append,lay,zdv l,lay]
def wts:Nat->List Bs->List Wt
 | _,[]=>[]
 | k,b::l=>⟨k,b⟩::wts (k+1) l
theorem znz:∀(l:List Bs) (k:Nat),(wts k l).length=l.length
 | [],_=>rfl
 | _::l,k=>by rw[wts,List.length_cons,List.length_cons,znz l]
theorem zdw:∀(l m:List Bs) (k:Nat),wts k (l++m)=wts k l++wts (k+l.length) m
 | [],_,_=>rfl
 | b::l,m,k=>by
  rw[List.cons_append,wts,zdw l m,wts,List.cons_append,List.length_cons,show k+1+l.length=k+(l.length+1) by omega]
theorem zf8:∀(l:List Bs) (k:Nat) (f:Nat->Bs) (j:Nat),lay f (wts k l) j=if h:k<=j/\j < k+l.length then l[j - k]'(by omega) else f j
 | [],k,f,j=>by
  rw[wts,lay,dif_neg (by simp only[List.length_nil];omega)]
 | b::l,k,f,j=>by
  rw[wts,lay,zf8 l (k+1) _ j];by_cases h:k+1<=j/\j < k+1+l.length
  ·rw[dif_pos h,dif_pos (by rw[List.length_cons];omega)]
   obtain⟨i,hi⟩:∃i,j - k=i+1:=⟨j - k - 1,by omega⟩;have e:j - (k+1)=i:=by omega
   simp[hi,e]
  ·rw[dif_neg h]
   by_cases h2:j=k
   ·subst h2
    rw[upd_same,dif_pos (by rw[List.length_cons];omega)];simp
   ·rw[upd_other _ _ h2,dif_neg (by rw[List.length_cons];omega)]
theorem zpo:∀(bs:List Bs) (n k:Nat) (f:Nat->Bs) (l:List Wt),k+bs.length<=n->(∀b∈bs,b.length=64)->wrs (up n f l) k bs=(0,up n f (l++wts k bs))
 | [],n,k,f,l,_,_=>by rw[wrs,wts,List.append_nil]
 | b::bs,n,k,f,l,h,hb=>by
  have hw:=zsc (n:=n) (f:=f) (l:=l) (k:=k) (by rw[List.length_cons] at h;omega) (hb b (List.mem_cons_self ..));rw[wrs,zao hw.1,hw.2,zpo bs n (k+1) f _ (by rw[List.length_cons] at h;omega) (fun x hx=>hb x (List.mem_cons_of_mem _ hx)),wts,List.append_assoc];rfl
theorem znA {b:Bs} {m:Nat} (hb:b.length=64*m) {n k:Nat} (h:k+m<=n) (f:Nat->Bs) (l:List Wt):wrb (up n f l) k b=(0,up n f (l++wts k (chs m b))):=by
 have e:b.length / 64=m:=by omega
 rw[wrb,e];exact zpo _ n k f l (by rw[zaL];exact h) (zlY m b hb)
def wip (k m:Nat) (f:Nat->Bs):Nat->Bs:=fun j=>if k<=j/\j < k+m then zr 64 else f j
theorem zkV (k:Nat) (f:Nat->Bs):wip k 0 f=f:=by
 funext j;unfold wip;rw[if_neg (by omega)]
theorem znB:∀(m n k:Nat) (f:Nat->Bs) (l:List Wt) (d:Bool),k+m<=n->∃f' l',cls (up n f l) k m d=(0,up n f' l')/\lay f' l'=wip k m (lay f l)/\l'.length<=l.length+m
 | 0,n,k,f,l,d,_=>by
  rw[cls,zkV];cases d
  ·exact⟨f,l,by simp,rfl,nL _⟩
  ·exact⟨lay f l,[],by rw[if_pos rfl];rfl,rfl,Nat.zero_le _⟩
 | m+1,n,k,f,l,d,h=>by
  rw[cls];by_cases hz:St.sh (up n f l) k=zr 64
  ·rw[if_pos hz]
   obtain⟨f',l',h1,h2,h3⟩:=znB m n (k+1) f l d (by omega);refine⟨f',l',h1,?_,by omega⟩;rw[h2];funext j;unfold wip;by_cases hj:j=k
   ·subst hj
    rw[if_neg (by omega),if_pos (by omega)];exact hz
   ·by_cases hj2:k+1<=j/\j < k+1+m
    ·rw[if_pos hj2,if_pos (by omega)]
    ·rw[if_neg hj2,if_neg (by omega)]
  ·rw[if_neg hz]
   have hw:=zsc (n:=n) (f:=f) (l:=l) (k:=k) (by omega) (zbH 64);rw[zao hw.1,hw.2];obtain⟨f',l',h1,h2,h3⟩:=znB m n (k+1) f (l++[⟨k,zr 64⟩]) true (by omega);refine⟨f',l',h1,?_,by rw[List.length_append] at h3;simp only[List.length_cons,List.length_nil] at h3;omega⟩;rw[h2,zdl];funext j;unfold wip;by_cases hj:j=k
   ·subst hj
    rw[if_neg (by omega),if_pos (by omega)];exact upd_same ..
   ·by_cases hj2:k+1<=j/\j < k+1+m
    ·rw[if_pos hj2,if_pos (by omega)]
    ·rw[if_neg hj2,if_neg (by omega)]
     exact upd_other _ _ hj
theorem zrw {m n k:Nat} (f:Nat->Bs) (l:List Wt) (h:k+m<=n):∃f' l',cln (up n f l) k m=(0,up n f' l')/\lay f' l'=wip k m (lay f l)/\l'.length<=l.length+m:=by
 rw[cln,if_neg (by simp)];exact znB m n k f l false h
theorem zf9:∀(m:Nat) (s:St) (k:Nat),(∀i,i < m->s.sh (k+i)=zr 64)->cls s k m false=(0,s)
 | 0,s,k,_=>by rw[cls,if_neg (by simp)]
 | m+1,s,k,h=>by
  rw[cls,if_pos (show s.sh k=zr 64 from h 0 (by omega))];exact zf9 m s (k+1) (fun i hi=>by rw[show k+1+i=k+(i+1) by omega];exact h (i+1) (by omega))
theorem zkW {s:St} (hd:s.down=false) {k m:Nat} (h:∀i,i < m->s.sh (k+i)=zr 64):cln s k m=(0,s):=by
 rw[cln,if_neg (by rw[hd];simp)];exact zf9 m s k h
def rcs:Bs->List Bs->Bs
 | _,[]=>[]
 | a,t::l=>rcd a t++rcs (rmk a t) l
theorem zcq:∀(l:List Bs) (a:Bs),(rcs a l).length=64*sns l
 | [],_=>rfl
 | t::l,a=>by
  rw[rcs,List.length_append,zaF,zcq l,sns];omega
theorem zaY:∀(l:List Bs) (k:Nat),tkn k l=k+sns l
 | [],_=>rfl
 | t::l,k=>by
  rw[tkn,zaY l,sns];omega
theorem zdx:∀(m:Nat) (x y:Bs) (q:Nat),x.length=64*m->chs (m+q) (x++y)=chs m x++chs q y
 | 0,x,y,q,h=>by
  obtain rfl:x=[]:=List.length_eq_zero_iff.1 (by omega);rw[Nat.zero_add,List.nil_append,chs,List.nil_append]
 | m+1,x,y,q,h=>by
  rw[show m+1+q=(m+q)+1 by omega,chs,chs,List.take_append_of_le_length (by omega),List.drop_append_of_le_length (by omega),zdx m _ y q (by rw[List.length_drop];omega),List.cons_append]
theorem zpp:∀(ts:List Bs) (n k tk:Nat) (a:Bs) (f:Nat->Bs) (l:List Wt),k+tk+sns ts<=n->pts (up n f l) k tk a ts=(0,up n f (l++wts (k+tk) (chs (sns ts) (rcs a ts))))
 | [],n,k,tk,a,f,l,_=>by rw[pts,sns,chs,wts,List.append_nil]
 | t::ts,n,k,tk,a,f,l,h=>by
  rw[sns] at h;have hw:=znA (zaF a t) (n:=n) (k:=k+tk) (by omega) f l;rw[pts,zao (by rw[hw]),hw,zpp ts n k (tk+sn t) (rmk a t) f _ (by omega),rcs,sns,zdx (sn t) _ _ (sns ts) (zaF a t),zdw,zaL,List.append_assoc,Nat.add_assoc]
def bgf (k H:Nat) (b:Bs) (f:Nat->Bs):Nat->Bs:=lay (wip k H f) (wts k (chs (b.length / 64) b))
theorem zep {f:Nat->Bs} {i j:Nat} (a b:Bs) (h:i≠j):upd (upd f i a) j b=upd (upd f j b) i a:=by
 funext q;unfold upd;by_cases h1:q=j
 ·by_cases h2:q=i
  ·omega
  ·simp[h1,show j≠i by omega]
 ·simp[h1]
theorem ziC:∀(l:List Wt) (f:Nat->Bs) (k:Nat) (b:Bs),(∀x∈l,x.k≠k)->upd (lay f l) k b=lay (upd f k b) l
 | [],_,_,_,_=>rfl
 | x::l,f,k,b,h=>by
  rw[lay,lay,ziC l _ k b (fun y hy=>h y (List.mem_cons_of_mem _ hy)),zep _ _ (h x (List.mem_cons_self ..))]
theorem zlZ:∀(l:List Bs) (k:Nat),∀x∈wts k l,k<=x.k
 | [],_,_,h=>by cases h
 | b::l,k,x,h=>by
  rw[wts] at h;rcases List.mem_cons.1 h with rfl|h
  ·exact nL _
  ·exact Nat.le_trans (Nat.le_succ k) (zlZ l (k+1) x h)
theorem zrx {n k H g:Nat} {ts:List Bs} (f:Nat->Bs) (l:List Wt) (h:k+H<=n) (hs:1+sns ts<=H):bgn (up n f l) k H g ts=(0,up n (bgf k H (hd g++rcs (hm g) ts) (lay f l)) []):=by
 obtain⟨f1,l1,e1,e2,-⟩:=zrw (n:=n) f l h;rw[bgn,zao (by rw[e1]),e1];have e3:=zpp ts n k 1 (hm g) f1 l1 (by omega);rw[zao (by rw[e3]),e3];have e4:=zrv n f1 (l1++wts (k+1) (chs (sns ts) (rcs (hm g) ts)));rw[zao e4.1,e4.2];have e5:=znA (b:=hd g) (m:=1) (by rw[zbi]) (n:=n) (k:=k) (by omega) (lay f1 (l1++wts (k+1) (chs (sns ts) (rcs (hm g) ts)))) [];rw[zao (by rw[e5]),e5];have e6:=zrv n (lay f1 (l1++wts (k+1) (chs (sns ts) (rcs (hm g) ts)))) ([]++wts k (chs 1 (hd g)));rw[e6.1,e6.2];congr 2;have hl:(hd g++rcs (hm g) ts).length / 64=1+sns ts:=by
  rw[List.length_append,zbi,zcq];omega
 rw[bgf,hl,zdx 1 _ _ _ (by rw[zbi]),zdw,zaL,List.nil_append,zdv l1,e2,zdv (wts k (chs 1 (hd g)))];have e7:chs 1 (hd g)=[hd g]:=by rw[chs,chs,List.take_of_length_le (by rw[zbi];omega)]
 rw[e7];show upd (lay (wip k H (lay f l)) (wts (k+1) _)) k (hd g)=lay (upd (wip k H (lay f l)) k (hd g)) _
 exact ziC _ _ _ _ (fun x hx=>by have:=zlZ _ _ x hx;omega)
theorem zga (s:St) (k a b:Nat):hb s k (a+b)=hb s k a++hb s (k+a) b:=by
 induction b with
 | zero=>simp[hb]
 | succ b ih=>rw[show a+(b+1)=(a+b)+1 by omega,zcp,ih,zcp,List.append_assoc,Nat.add_assoc]
theorem zpq {s:St}:∀(m k:Nat) (b:Bs),b.length=64*m->(∀i (hi:i < m),s.sh (k+i)=(chs m b)[i]'(by rw[zaL];exact hi))->hb s k m=b
 | 0,k,b,hl,_=>by
  obtain rfl:b=[]:=List.length_eq_zero_iff.1 (by omega);rfl
 | m+1,k,b,hl,h=>by
  rw[show m+1=1+m by omega,zga];have h0:hb s k 1=b.take 64:=by
   have:=h 0 (by omega)
   simpa[hb,chs] using this
  rw[h0,zpq m (k+1) (b.drop 64) (by rw[List.length_drop];omega) (fun i hi=>by
   have:=h (i+1) (by omega);rw[show k+1+i=k+(i+1) by omega,this];simp[chs]),List.take_append_drop]
theorem zdy {s:St}:∀(m k:Nat),(∀i,i < m->s.sh (k+i)=zr 64)->hb s k m=zr (64*m)
 | 0,_,_=>rfl
 | m+1,k,h=>by
  rw[zcp,zdy m k (fun i hi=>h i (by omega)),h m (by omega)];unfold zr;rw[List.replicate_append_replicate,show 64*m+64=64*(m+1) by omega]
theorem zpr {k H:Nat} {b:Bs} (f:Nat->Bs) {i:Nat} (hi:i < b.length / 64):bgf k H b f (k+i)=(chs (b.length / 64) b)[i]'(by rw[zaL];exact hi):=by
 rw[bgf,zf8,dif_pos (by rw[zaL];omega)];congr 1;omega
theorem zgb {k H:Nat} {b:Bs} (f:Nat->Bs) {i:Nat} (hi:b.length / 64<=i) (hH:i < H):bgf k H b f (k+i)=zr 64:=by
 rw[bgf,zf8,dif_neg (by rw[zaL];omega),wip,if_pos (by omega)]
theorem znC {k H:Nat} {b:Bs} (f:Nat->Bs) {j:Nat} (hb:b.length / 64<=H) (hj:j < k\/k+H<=j):bgf k H b f j=f j:=by
 rw[bgf,zf8,dif_neg (by rw[zaL];omega),wip,if_neg (by omega)]
theorem zps {n k H:Nat} {b:Bs} {m:Nat} (hl:b.length=64*m) (hm:m<=H) (f:Nat->Bs):hb (up n (bgf k H b f) []) k H=b++zr (64*(H - m)):=by
 have e:b.length / 64=m:=by omega
 obtain⟨d,rfl⟩:∃d,H=m+d:=⟨H - m,by omega⟩;rw[zga,zpq m k b hl (fun i hi => ?_),zdy d (k+m) (fun i hi => ?_),show m+d - m=d by omega]
 ·have:=zgb (k:=k) (H:=m+d) (b:=b) f (i:=m+i) (by omega) (by omega)
  rw[<-Nat.add_assoc] at this;exact this
 ·have:=zpr (k:=k) (H:=m+d) (b:=b) f (i:=i) (by omega)
  simp only[e] at this;exact this
theorem znD {g:Nat} (h:g < 4294967296):nm (ben g 4)=g:=by
 simp[nm,ben,List.range_succ];omega
theorem znE {g:Nat} (h:g < 65536):nm (ben g 2)=g:=by
 simp[nm,ben,List.range_succ];omega
theorem zpt (g:Nat) (r:Bs):((hd g++r).drop 4).take 4=ben g 4:=by
 have e:hd g++r=[76,79,71,0]++(ben g 4++(hm g++zr ((64 - (hf g++hm g).length % 64) % 64)++r)):=by
  simp[hd,pdd,hf]
 rw[e];show (ben g 4++_).take 4=_
 rw[List.take_left' (zav g 4)]
theorem zpu {g:Nat} (h:g<=2147483647) (r:Bs):gen (hd g++r)=g:=by
 rw[gen,zpt,znD (by omega),if_pos ⟨h,List.isPrefixOf_iff_prefix.2 (List.prefix_append _ _)⟩]
theorem znF:∀m:Nat,nm (zr m)=0
 | 0=>rfl
 | m+1=>by
  have:=znF m;unfold nm zr at this ⊢;rw[List.replicate_succ,List.foldl_cons];exact this
theorem zl0 (m:Nat):gen (zr m)=0:=by
 have e:((zr m).drop 4).take 4=zr (min 4 (m - 4)):=by
  unfold zr;rw[List.drop_replicate,List.take_replicate]
 rw[gen,e,znF]
 split <;> rfl
theorem zpv (m:Nat) (a:Bs):rof (zr m) a=none:=by
 have e:(zr m).take 2=zr (min 2 m):=by
  unfold zr;rw[List.take_replicate]
 unfold rof;rw[e,znF]
 split
 ·rfl
 ·rw[if_pos (.inl (by decide))]
theorem znG {a t:Bs} (r:Bs) (h1:1<=t.length) (h2:t.length<=2000):rof (rcd a t++r) a=some t:=by
 have hs:=zf7 t;have hl:(rcd a t++r).length=64*sn t+r.length:=by rw[List.length_append,zaF]
 have hsn:18+t.length<=64*sn t:=by unfold sn;omega
 have e:rcd a t++r=ben t.length 2++(rmk a t++(t++(zr ((64 - (ben t.length 2++rmk a t++t).length % 64) % 64)++r))):=by
  simp[rcd,pdd]
 have e2:(rcd a t++r).take 2=ben t.length 2:=by rw[e,List.take_left' (zav _ _)]
 have e3:((rcd a t++r).drop 18).take t.length=t:=by
  rw[e,<-List.append_assoc (ben t.length 2),List.drop_left' (by rw[List.length_append,zav,rmk,zcP]),List.take_left' rfl]
 unfold rof;rw[e2,znE (by omega),hl,if_neg (by omega),if_neg (by omega),e3,if_pos (List.isPrefixOf_iff_prefix.2 (List.prefix_append _ _))]
theorem zgc:∀(ts:List Bs) (a:Bs) (m z:Nat),(∀t∈ts,1<=t.length/\t.length<=2000)->ts.length<=m->zb7 m (rcs a ts++zr z) a=ts
 | [],a,0,z,_,_=>rfl
 | [],a,m+1,z,_,_=>by
  have e:rof (rcs a []++zr z) a=none:=zpv z a;rw[zb7,e]
 | t::ts,a,0,z,_,h=>by simp at h
 | t::ts,a,m+1,z,h,hm=>by
  have ht:=h t (List.mem_cons_self ..);have e:rof (rcs a (t::ts)++zr z) a=some t:=by
   rw[rcs,List.append_assoc];exact znG _ ht.1 ht.2
  rw[zb7,e];have ed:(rcs a (t::ts)++zr z).drop (64*sn t)=rcs (rmk a t) ts++zr z:=by
   rw[rcs,List.append_assoc,List.drop_left' (zaF a t)]
  show t::zb7 m _ (rmk a t)=_;rw[ed,zgc ts (rmk a t) m z (fun x hx=>h x (List.mem_cons_of_mem _ hx)) (by rw[List.length_cons] at hm;omega)]
theorem zfa:∀ts:List Bs,ts.length<=sns ts
 | []=>nL _
 | t::ts=>by
  have:=zf7 t;have:=zfa ts;rw[sns,List.length_cons];omega
theorem zkX {n h g:Nat} {ts:List Bs} (f:Nat->Bs) (hH:2<=n / 2) (hh:h<=1) (hg0:1<=g) (hg:g<=2147483647) (hs:1+sns ts<=n / 2) (ht:∀t∈ts,1<=t.length/\t.length<=2000)
  (ho:gen (hb (up n (bgf (h*(n / 2)) (n / 2) (hd g++rcs (hm g) ts) f) []) ((1 - h)*(n / 2)) (n / 2)) < g) :
  opn (up n (bgf (h*(n / 2)) (n / 2) (hd g++rcs (hm g) ts) f) [])=((0,up n (bgf (h*(n / 2)) (n / 2) (hd g++rcs (hm g) ts) f) []),⟨h,g,ts⟩):=by
 have hbh:=zps (n:=n) (k:=h*(n / 2)) (H:=n / 2) (b:=hd g++rcs (hm g) ts) (m:=1+sns ts) (by rw[List.length_append,zbi,zcq];omega) hs f;have e0:(hd g++rcs (hm g) ts).length / 64=1+sns ts:=by
  rw[List.length_append,zbi,zcq];omega
 have hZ:∀i,i < n / 2 - (1+sns ts)->St.sh (up n (bgf (h*(n / 2)) (n / 2) (hd g++rcs (hm g) ts) f) []) (h*(n / 2)+(1+sns ts)+i)=zr 64:=fun i hi=>by
  have:=zgb (k:=h*(n / 2)) (H:=n / 2) (b:=hd g++rcs (hm g) ts) f (i:=1+sns ts+i) (by omega) (by omega);rw[<-Nat.add_assoc] at this;exact this
 obtain⟨s,hse⟩:∃s,up n (bgf (h*(n / 2)) (n / 2) (hd g++rcs (hm g) ts) f) []=s:=⟨_,rfl⟩;have hn:s.n=n:=by rw[<-hse]
 have hdn:s.down=false:=by rw[<-hse]
 rw[hse] at hbh ho hZ ⊢;have gh:gen (hb s (h*(n / 2)) (n / 2))=g:=by
  rw[hbh,List.append_assoc];exact zpu hg _
 have hu:use s=(h,g):=by
  unfold use;rw[hn];rcases (by omega:h=0\/h=1) with rfl|rfl
  ·simp only[Nat.zero_mul,Nat.one_mul,Nat.sub_zero] at gh ho ⊢
   rw[gh,if_neg (by omega)]
  ·simp only[Nat.sub_self,Nat.zero_mul,Nat.one_mul] at gh ho ⊢
   rw[gh,if_pos ho]
 have hr:zdP s (h*(n / 2)) (n / 2) g=ts:=by
  rw[zdP,hbh,List.append_assoc,List.drop_left' (zbi g)];exact zgc ts (hm g) (n / 2) _ ht (by have:=zfa ts;omega)
 unfold opn;rw[hn,if_neg (by omega),if_neg (by rw[hdn];simp),hu];show (if g=0 then _ else _)=_
 rw[if_neg (by omega)];show (cln s (h*(n / 2)+tkn 1 (zdP s (h*(n / 2)) (n / 2) g)) (n / 2 - tkn 1 (zdP s (h*(n / 2)) (n / 2) g)),(⟨h,g,zdP s (h*(n / 2)) (n / 2) g⟩:Lo))=_
 rw[hr,zaY,zkW hdn hZ]
theorem ziD {n:Nat} (f:Nat->Bs) (hf:∀j,f j=zr 64) (hH:2<=n / 2):opn (up n f [])=((0,up n (bgf 0 (n / 2) (hd 1++rcs (hm 1) []) f) []),⟨0,1,[]⟩):=by
 have hz:∀k m,hb (up n f []) k m=zr (64*m):=fun k m=>zdy m k (fun i _=>hf _)
 have hu:use (up n f [])=(0,0):=by
  unfold use;show (if gen (hb (up n f []) 0 (n / 2)) < gen (hb (up n f []) (n / 2) (n / 2)) then _ else _)=_
  rw[hz,hz,zl0,if_neg (by omega)]
 unfold opn;show (if n / 2 < 2 then _ else if false=true then _ else _)=_
 rw[if_neg (by omega),if_neg (by simp),hu,if_pos rfl];rw[zrx (n:=n) (k:=0) (H:=n / 2) f [] (by omega) (by rw[sns];omega)];rfl
end Go.Proofs.Lg
namespace Go.Proofs.YtjcppbhgjchjaaaGreatDoor.Sto
open Go.RowKit Go.Proofs.Fd Go.Proofs.Dk Go.Proofs.Lg
structure Blk (w:Wo) (b:Nat) (cs:List Value):Prop where
 r:w.rangeAt b 0 cs
 f:∀o,w.frozen? ⟨b,o,none⟩=false
 n:cs≠[]
theorem Blk.c {w:Wo} {b:Nat} {cs:List Value} (h:Blk w b cs) (j:Nat) (v:Value) (hv:cs[j]?=some v):w.cell? ⟨b,j,none⟩=some v:=by
 have:=h.r j v hv;rw[Nat.zero_add] at this;exact this
theorem Blk.lt {w:Wo} {b:Nat} {cs:List Value} (h:Blk w b cs):b < w.heap.size:=by
 obtain⟨v,r,e⟩:=List.exists_cons_of_ne_nil h.n;exact World.block_lt_of_cell? _ _ (h.c 0 v (by rw[e];rfl))
theorem Blk.same {w w':Wo} {b:Nat} {cs:List Value} (h:Blk w b cs) (hs:w'.heap[b]?=w.heap[b]?):Blk w' b cs :=
 ⟨zbf h.r hs,fun o=>(World.frozen?_of_block (a:=⟨b,o,none⟩) hs).trans (h.f o),h.n⟩
theorem Blk.below {w w':Wo} {b B:Nat} {cs:List Value} (h:Blk w b cs) (hb:Below B w w') (hl:b < B):Blk w' b cs:=h.same (hb.block b hl)
theorem Blk.later {w w':Wo} {b:Nat} {cs:List Value} (h:Blk w b cs) (hb:Bw w w'):Blk w' b cs:=h.same (hb.block b h.lt)
theorem Blk.bf {w w':Wo} {b:Nat} {cs:List Value} (h:Blk w b cs) {F:Nat->Prop} (hb:Bf F w w') (hF:¬F b):Blk w' b cs:=h.same (hb.block b h.lt hF)
theorem Blk.new (w:Wo) (cs:List Value) (ty:TypeId) (hn:cs≠[]):Blk (w.alloc (.cells cs.toArray ty)) w.heap.size cs :=
 ⟨fun j v hv=>by rw[Nat.zero_add,World.cell?_alloc_new];simpa using hv,fun o=>by simp[go_sem],hn⟩
theorem Blk.drew {w:Wo} {b:Nat} {cs:List Value} (h:Blk w b cs):Blk w.drew b cs:=⟨by simpa using h.r,h.f,h.n⟩
theorem zbj (b:Nat):∀(vs:List Value) (o:Nat) (w:Wo) (x:Addr),(w.setCells b o vs).frozen? x=w.frozen? x
 | [],_,_,_=>rfl
 | v::vs,o,w,x=>by rw[World.setCells,zbj b vs,World.frozen?_setCell]
theorem Blk.there {w:Wo} {b:Nat} {cs:List Value} (h:Blk w b cs):w.there b 0 cs.length:=fun j hj=>⟨h.r.isSome j hj,h.f _⟩
theorem Blk.put {w:Wo} {b:Nat} {cs:List Value} (h:Blk w b cs) (vs:List Value) (hl:vs.length=cs.length):Blk (w.setCells b 0 vs) b vs :=
 ⟨World.rangeAt_setCells_same w b 0 vs (by rw[hl];exact h.there),fun o=>(zbj b vs 0 w _).trans (h.f o),fun e=>h.n (by rw[e] at hl;exact List.length_eq_zero_iff.1 hl.symm)⟩
theorem Blk.set {w:Wo} {b:Nat} {cs:List Value} (h:Blk w b cs) (i:Nat) (hi:i < cs.length) (v:Value):Blk (w.setCell ⟨b,i,none⟩ v) b (cs.set i v):=by
 refine⟨fun j u hu => ?_,fun o=>by rw[World.frozen?_setCell];exact h.f o,by simpa using h.n⟩;rw[Nat.zero_add];by_cases e:j=i
 ·subst e
  rw[List.getElem?_set_self hi] at hu;rw[World.cell?_setCell_same _ _ _ (by rw[h.c j _ (List.getElem?_eq_getElem hi)]),hu]
 ·rw[List.getElem?_set_ne (Ne.symm e)] at hu
  rw[World.cell?_setCell_other _ _ _ _ (fun q=>e (by injection q with q1 q2 q3;exact q2.symm)),h.c j u hu]
theorem zah {w:Wo} {B b:Nat} (hb:B<=b):∀(vs:List Value) (o:Nat) {w':Wo},Below B w w'->Below B w (w'.setCells b o vs)
 | [],_,_,h=>h
 | v::vs,o,_,h=>zah hb vs (o+1) (h.setCell (p:=⟨b,o,none⟩) hb v)
theorem res_c1 {F:Func} {k:Nat} {T:TypeId} (hF:F.results=#[.cell k T]) (tmps:Array Value) (w:Wo) (b:Nat) (x:Value) (h0:tmps.getD k undef = .pointer (some ⟨b,0,none⟩))
  (l1:(loadVar T ⟨b,0,none⟩).run Tryz.prog w = .ok x w):(results F tmps).run Tryz.prog w = .ok x w:=by
 unfold results;rw[hF];have h0':tmps[k]?.getD undef = .pointer (some ⟨b,0,none⟩):=by simpa using h0
 simp[h0',l1,asAddr]
theorem zaS {F:Func} {k j:Nat} {T:TypeId} (hF:F.results=#[.cell k T,.tmp j]) (tmps:Array Value) (w:Wo) (b:Nat) (x v:Value) (h0:tmps.getD k undef = .pointer (some ⟨b,0,none⟩)) (h1:tmps.getD j undef=v)
  (l1:(loadVar T ⟨b,0,none⟩).run Tryz.prog w = .ok x w):(results F tmps).run Tryz.prog w = .ok (.tuple #[x,v]) w:=by
 unfold results;rw[hF];have h0':tmps[k]?.getD undef = .pointer (some ⟨b,0,none⟩):=by simpa using h0
 have h1':tmps[j]?.getD undef=v:=by simpa using h1
 simp[h0',h1',l1,asAddr]
theorem zcR (n:Nat) (hn:n<=1000) (w:Wo):Cl 221 #[.int .i64 (n:Int)] w fun e w'=>e = .returned (sv (zr n))/\Bw w w':=by
 have RP:Hid (∀w,Cl 258 #[.string ⟨#[0]⟩,.int .i64 (n:Int)] w fun e w'=>e = .returned (sv (zr n))/\Bw w w'):=zny 0 n hn;clear hn;obtain⟨x,hx⟩:∃x:Int,(n:Int)=x:=⟨_,rfl⟩;rw[hx] at RP ⊢;clear hx;go_enter Tryz.func221, Tryz.ntmps221;go_wp2_with fail;refine cM (RP.out _) ?_;rintro e w1 ⟨rfl,hb⟩;have B1:Hid _:=hb;clear hb;go_wp2;go_ret;exact⟨rfl,B1.out⟩
theorem znH (n:Nat):madeCells (Value.int .u8 0).cells n=Array.replicate n (.int .u8 0):=by
 apply Array.ext
 ·simp[madeCells]
 ·intro i h1 h2
  rw[Array.getElem_replicate];simp[madeCells,Value.cells,Nat.mod_one]
theorem znI (n:Nat) (hn:n<=1000) (w:Wo):∃W:Wo,(Instr.makeSlice 99 (.int .i64 (n:Int)) (.int .i64 (n:Int))).run Tryz.prog w = .ok (.slice (some ⟨w.heap.size,0,none⟩) n n) W
  /\ BytesAt W w.heap.size (zr n)/\Bw w W:=by
 obtain⟨i0,hi,hz0,hz1,hz2⟩:=info_parts zpk;have h:=run_make (P:=Tryz.prog) w 99 5 i0 (.int .u8 0) Tryz.underlying99 hi hz0 .i64 .i64 (n:Int) (n:Int) (by omega) (Int.le_refl _) (by rw[hz2];omega) (by omega);rw[Int.toNat_natCast,hz1,Nat.mul_one,znH] at h;refine⟨_,h,fun j hj => ?_,(bQ _ _).alloc (nL _) _⟩;have hj':j < n:=by rw[zbH] at hj;exact hj
 refine⟨?_,by simp[go_sem]⟩;rw[World.cell?_alloc_new,Array.getElem?_replicate,if_pos hj'];simp[zr]
theorem zkY (n m k:Nat) (hk:k < m):((ben n m).take k++zr (m - k)).set k (UInt8.ofNat (n / 2 ^ (8*(m - 1 - k))))=(ben n m).take (k+1)++zr (m - (k+1)):=by
 have hl:((ben n m).take k).length=k:=by rw[List.length_take,zav];omega
 rw[List.set_append_right _ _ (by omega),hl,Nat.sub_self,List.take_succ_eq_append_getElem (by rw[zav];exact hk),List.append_assoc];congr 1;obtain⟨d,hd⟩:∃d,m - k=d+1:=⟨m - k - 1,by omega⟩;rw[hd,show m - (k+1)=d by omega];simp[zr,List.replicate_succ,ben]
theorem zbv (n m:Nat) (hm:m<=8) (w:Wo):Cl 334 #[.int .i64 (n:Int),.int .i64 (m:Int)] w fun e w'=>e = .returned (sv (ben n m))/\Below w.heap.size w w':=by
 obtain⟨W,MK,BM,BB⟩:=znI m (by omega) w;have HB:Hid (Below w.heap.size w W):=BB;have HM:Hid (BytesAt W w.heap.size (zr m)):=BM;have hm0:(0:Int)<=(m:Int):=by omega
 clear BB BM;obtain⟨B,hB⟩:∃B,w.heap.size=B:=⟨_,rfl⟩;rw[hB] at MK HM HB ⊢;clear hB;go_enter Tryz.func334, Tryz.ntmps334;go_wp2;go_loopw [11] (fun i wr=>∃k:Nat,k<=m/\i = .int .i64 (k:Int)/\Hid (BytesAt wr B ((ben n m).take k++zr (m - k))/\Below B w wr)) (fun i _=>m - (intOf i).toNat)
 case atStart=>exact⟨0,Nat.zero_le _,rfl,HM.out,HB.out⟩
 case round =>
  obtain⟨k,hk,rfl,J⟩:=hrel;clear HB HM MK;by_cases hkm:k < m
  ·have g1:(k:Int) < (m:Int):=by omega
   have hlen:((ben n m).take k++zr (m - k)).length=m:=by
    rw[List.length_append,List.length_take,zav,zbH];omega
   obtain⟨c0,f0⟩:=J.out.1 k (by rw[hlen];exact hkm);obtain⟨t,ht⟩:∃t,m - 1 - k=t:=⟨_,rfl⟩;have e0:(m:Int) - 1 - (k:Int)=(t:Int):=by omega
   have e6:IntKind.i64.wrap (8*(t:Int))=((8*t:Nat):Int):=by rw[IntKind.wrap_i64];omega
   have e7:((8*t:Nat):Int)<=64:=by omega
   have BV:(n:Int) / 2 ^ (8*t) % 256=((UInt8.ofNat (n / 2 ^ (8*t))).toNat:Int):=by rw[UInt8.toNat_ofNat'];simp
   have ST:=J.out.1.set k (UInt8.ofNat (n / 2 ^ (8*t))) _ rfl;rw[<-ht,zkY n m k hkm,ht] at ST;have HS:Hid _:=ST;have HC:Hid (Below B w (wr.setCell ⟨B,k,none⟩ (.int .u8 ((UInt8.ofNat (n / 2 ^ (8*t))).toNat:Int)))):=J.out.2.setCell (p:=⟨B,k,none⟩) (nL _) _;obtain⟨c,hc⟩:∃c,UInt8.ofNat (n / 2 ^ (8*t))=c:=⟨_,rfl⟩;rw[hc] at BV HS HC;obtain⟨v,hv⟩:∃v,Value.int .u8 (((ben n m).take k++zr (m - k))[k]'(by rw[hlen];exact hkm)).toNat=v:=⟨_,rfl⟩;rw[hv] at c0;clear ST hc hv hlen J;go_wp2;go_roundw
   case rel=>exact⟨k+1,by omega,rfl,HS.out,HC.out⟩
   case measure=>simp[intOf];omega
  ·obtain rfl:k=m:=by omega
   have J2:Hid (BytesAt wr B (ben n k)/\Below B w wr):=by
    have:=J.out;rw[List.take_of_length_le (by rw[zav];exact nL _),Nat.sub_self] at this;have e:ben n k++zr 0=ben n k:=List.append_nil _;rw[e] at this;exact this
   have CV:=J2.out.1.string (cap:=k) (zav n k);clear J;go_wp2;go_ret;exact⟨rfl,J2.out.2⟩
theorem zcr (x:Bs) (hx:x.length<=4096) (w:Wo):Cl 335 #[sv x] w fun e w'=>e = .returned (sv (pdd x))/\Bw w w':=by
 have hs:(st x).size=x.length:=zaf x;obtain⟨z,hz⟩:∃z,(64 - x.length % 64) % 64=z:=⟨_,rfl⟩;have ZR:Hid (∀w,_):=zcR z (by omega);have HP:Hid (st x++st (zr z)=st (pdd x)):=by
  show st x++st (zr z)=st (pdd x);rw[zcn,pdd,hz]
 obtain⟨X,hX⟩:∃X,st x=X:=⟨_,rfl⟩;obtain⟨Y,hY⟩:∃Y,st (zr z)=Y:=⟨_,rfl⟩;have hy:Y.size=z:=by rw[<-hY,zaf,zbH]
 have e1:(64 - (X.size:Int) % 64) % 64=(z:Int):=by rw[<-hX,hs];omega
 have hl:X.size<=4096:=by rw[<-hX,hs];exact hx
 have hz2:z < 64:=by omega
 unfold sv at ZR ⊢;rw[hX] at HP ⊢;rw[hY] at ZR HP;clear hX hY hs hz hx;go_enter Tryz.func335, Tryz.ntmps335;go_wp2_with fail;refine cM (ZR.out _) ?_;rintro e w1 ⟨rfl,hb⟩;have B1:Hid _:=hb;clear hb;go_wp2;go_ret;exact⟨by rw[<-HP.out];rfl,B1.out⟩
theorem zeq (a:Option Addr) (ks:List Ba) (n cap:Nat) (hn:Hid (ks.length=n)) (hn63:n < 9223372036854775807) (w:Wo) (hk:Hid (Kh w)) (hc:Hid (StrAt w a ks)) (hs:Hid (∀s∈ks,s.size < 9223372036854775807)) :
  Cl 333 #[.slice a n cap] w fun e w'=>e = .returned (sv (Lg.mk (ks.flatMap fun s=>s.data.toList)))/\Bw w w':=by
 have SH:Hid _:=zkd 16 (by decide) (by decide) a ks n cap hn hn63 w hk hc hs;have e1:(shs ks).extract 0 16=st (Lg.mk (ks.flatMap fun s=>s.data.toList)):=by
  have:shs ks=st (Hs.sha (ks.flatMap fun s=>s.data.toList)):=rfl;rw[this,zco,Lg.mk,List.drop_zero]
 rw[e1] at SH;clear e1 hc hs hk hn;obtain⟨X,hX⟩:∃X,st (Lg.mk (ks.flatMap fun s=>s.data.toList))=X:=⟨_,rfl⟩;unfold sv;rw[hX] at SH ⊢;clear hX hn63;go_enter Tryz.func333, Tryz.ntmps333;go_wp2_with fail;refine cM SH.out ?_;rintro e w1 ⟨rfl,hb⟩;have B1:Hid _:=hb;clear hb;go_wp2;go_ret;exact⟨rfl,B1.out⟩
theorem zcS (g:Nat) (w:Wo):Cl 338 #[.int .i64 (g:Int)] w fun e w'=>e = .returned (sv (hf g))/\Bw w w':=by
 have NB:Hid (∀w,Cl 334 #[.int .i64 (g:Int),.int .i64 4] w fun e w'=>e = .returned (sv (ben g 4))/\Bw w w'):=zbv g 4 (by decide);have HP:Hid ((⟨#[76,79,71,0]⟩:Ba)++st (ben g 4)=st (hf g)):=zcn [76,79,71,0] (ben g 4);have hy:(st (ben g 4)).size=4:=by rw[zaf,zav]
 obtain⟨Y,hY⟩:∃Y,st (ben g 4)=Y:=⟨_,rfl⟩;unfold sv at NB ⊢;rw[hY] at NB HP hy;clear hY;go_enter Tryz.func338, Tryz.ntmps338;go_wp2_with fail;refine cM (NB.out _) ?_;rintro e w1 ⟨rfl,hb⟩;have B1:Hid _:=hb;clear hb;go_wp2;go_ret;exact⟨by rw[<-HP.out];rfl,B1.out⟩
theorem ziE (g:Nat) (w:Wo) (hk:Hid (Kh w)):Cl 337 #[.int .i64 (g:Int)] w fun e w'=>e = .returned (sv (hm g))/\Bw w w':=by
 have FR:Hid (∀w,_):=zcS g;have MK:Hid (∀(B:Nat) (w:Wo),Kh w->w.cell? ⟨B,0,none⟩=some (sv (hf g))->Cl 333 #[.slice (some ⟨B,0,none⟩) 1 1] w fun e w'=>e = .returned (sv (hm g))/\Bw w w'):=fun B w h h0=>by
  have:=zeq (some ⟨B,0,none⟩) [st (hf g)] 1 1 rfl (by decide) w h (zhM h0) (fun s hs=>by rw[List.mem_singleton] at hs;subst hs;rw[zaf,zf6];decide);have e:([st (hf g)].flatMap fun s=>s.data.toList)=hf g:=by simp[zdp]
  rw[e] at this;exact this
 obtain⟨Y,hY⟩:∃Y,st (hf g)=Y:=⟨_,rfl⟩;unfold sv at FR MK ⊢;rw[hY] at FR MK;clear hY;go_enter Tryz.func337, Tryz.ntmps337;go_wp2_with fail;refine cM (FR.out _) ?_;rintro e w1 ⟨rfl,hb⟩;have B1:Hid _:=hb;clear hb;go_wp2_with fail;refine cM (MK.out w1.heap.size _ ((hk.out.later B1.out).alloc _) (by simp[go_sem])) ?_;rintro e w2 ⟨rfl,hb⟩;have B2:Hid _:=chain (B1.out.alloc B1.out.size _) hb;clear hb;go_wp2;go_ret;exact⟨rfl,B2.out⟩
theorem zer (g:Nat) (w:Wo) (hk:Hid (Kh w)):Cl 288 #[.int .i64 (g:Int)] w fun e w'=>e = .returned (sv (hd g))/\Bw w w':=by
 have FR:Hid (∀w,_):=zcS g;have HM:Hid (∀w,_):=ziE g;have PD:Hid (∀w,Cl 335 #[sv (hf g++hm g)] w fun e w'=>e = .returned (sv (hd g))/\Bw w w'):=zcr (hf g++hm g) (by rw[List.length_append,zf6,hm,zcP];decide);have h1:(st (hf g)).size=8:=by rw[zaf,zf6]
 have h2:(st (hm g)).size=16:=by rw[zaf,hm,zcP]
 have e3:st (hf g++hm g)=st (hf g)++st (hm g):=(zcn _ _).symm;unfold sv at *;rw[e3] at PD;clear e3;obtain⟨X,hX⟩:∃X,st (hf g)=X:=⟨_,rfl⟩;obtain⟨Y,hY⟩:∃Y,st (hm g)=Y:=⟨_,rfl⟩;rw[hX] at FR PD h1;rw[hY] at HM PD h2;clear hX hY;go_enter Tryz.func288, Tryz.ntmps288;go_wp2_with fail;refine cM (FR.out _) ?_;rintro e w1 ⟨rfl,hb⟩;have B1:Hid _:=hb;clear hb;go_wp2_with fail;refine cM (HM.out _ (hk.out.later B1.out)) ?_;rintro e w2 ⟨rfl,hb⟩;have B2:Hid _:=chain B1.out hb;clear hb;go_wp2_with fail;refine cM (PD.out _) ?_;rintro e w3 ⟨rfl,hb⟩;have B3:Hid _:=chain B2.out hb;clear hb;go_wp2;go_ret;exact⟨rfl,B3.out⟩
theorem zaT (x:Bs) (hx:x.length<=1000000) (w:Wo):Cl 204 #[sv x] w fun e w'=>e = .returned (.int .i64 (sn x:Int))/\w'=w:=by
 have hs:(st x).size=x.length:=zaf x;have e1:(18+((st x).size:Int)+64 - 1) / 64=(sn x:Int):=by rw[hs];unfold sn;omega
 have hl:(st x).size<=1000000:=by omega
 obtain⟨X,hX⟩:∃X,st x=X:=⟨_,rfl⟩;unfold sv;rw[hX] at e1 hl ⊢;obtain⟨m,hm⟩:∃m,sn x=m:=⟨_,rfl⟩;rw[hm] at e1 ⊢;clear hX hs hx hm;go_enter Tryz.func204, Tryz.ntmps204;go_wp2;go_ret;exact⟨by rw[<-e1];rfl,rfl⟩
theorem zcT (s:Ba) (w:Wo):Cl 203 #[.string s] w fun e w'=>e = .returned (.int .i64 (may s.data.toList))/\w'=w:=by
 have hs:s.data.toList.length=s.size:=by simp
 unfold may;rw[hs];by_cases h1:s.size < 1
 ·rw[if_pos h1]
  have g1:(s.size:Int) < 1:=by omega
  go_enter Tryz.func203, Tryz.ntmps203;go_wp2;go_ret;exact⟨rfl,rfl⟩
 ·rw[if_neg h1]
  have g1:¬(s.size:Int) < 1:=by omega
  by_cases h2:2000 < s.size
  ·rw[if_pos h2]
   have g2:(2000:Int) < (s.size:Int):=by omega
   go_enter Tryz.func203, Tryz.ntmps203;go_wp2;go_ret;exact⟨rfl,rfl⟩
  ·rw[if_neg h2]
   have g2:¬(2000:Int) < (s.size:Int):=by omega
   go_enter Tryz.func203, Tryz.ntmps203;go_wp2;go_ret;exact⟨rfl,rfl⟩
abbrev rv (m t:Bs):Value := .agg #[sv m,sv t]
theorem strAt3 {w:Wo} {B:Nat} {x y z:Ba} (h0:w.cell? ⟨B,0,none⟩=some (.string x)) (h1:w.cell? ⟨B,1,none⟩=some (.string y)) (h2:w.cell? ⟨B,2,none⟩=some (.string z)):StrAt w (some ⟨B,0,none⟩) [x,y,z]:=fun i hi=>by
 refine⟨B,0,rfl,?_⟩;rcases (by simp at hi;omega:i=0\/i=1\/i=2) with rfl|rfl|rfl
 ·exact h0
 ·exact h1
 ·exact h2
theorem zes (a t:Bs) (ha:a.length=16) (ht:t.length<=2000) (w:Wo) (hk:Hid (Kh w)):Cl 279 #[sv a,sv t] w fun e w'=>e = .returned (rv (rmk a t) t)/\Bw w w':=by
 have NB:Hid (∀w,Cl 334 #[.int .i64 ((st t).size:Int),.int .i64 2] w fun e w'=>e = .returned (sv (ben t.length 2))/\Bw w w'):=by
  rw[zaf];exact zbv t.length 2 (by decide)
 have MK:Hid (∀(B:Nat) (w:Wo),Kh w->w.cell? ⟨B,0,none⟩=some (sv a)->w.cell? ⟨B,1,none⟩=some (sv (ben t.length 2))->w.cell? ⟨B,2,none⟩=some (sv t)->Cl 333 #[.slice (some ⟨B,0,none⟩) 3 3] w fun e w'=>e = .returned (sv (rmk a t))/\Bw w w'):=fun B w h h0 h1 h2=>by
  have:=zeq (some ⟨B,0,none⟩) [st a,st (ben t.length 2),st t] 3 3 rfl (by decide) w h (strAt3 h0 h1 h2) (fun s hs=>by
   simp only[List.mem_cons,List.not_mem_nil,or_false] at hs;rcases hs with rfl|rfl|rfl
   ·rw[zaf,ha];decide
   ·rw[zaf,zav];decide
   ·rw[zaf];omega)
  have e:([st a,st (ben t.length 2),st t].flatMap fun s=>s.data.toList)=a++ben t.length 2++t:=by simp[zdp]
  rw[e] at this;exact this
 obtain⟨Y,hY⟩:∃Y,st (ben t.length 2)=Y:=⟨_,rfl⟩;obtain⟨A,hA⟩:∃A,st a=A:=⟨_,rfl⟩;obtain⟨T,hT⟩:∃T,st t=T:=⟨_,rfl⟩;obtain⟨R,hR⟩:∃R,st (rmk a t)=R:=⟨_,rfl⟩;unfold rv;unfold sv at *;rw[hY] at NB MK;rw[hA] at MK ⊢;rw[hT] at NB MK ⊢;rw[hR] at MK ⊢;have hTs:T.size<=2000:=by rw[<-hT,zaf];exact ht
 clear hY hA hT hR ha ht;have BK0:Blk (w.alloc (.cells #[.string ⟨#[]⟩,.string ⟨#[]⟩] 337)) w.heap.size [.string ⟨#[]⟩,.string ⟨#[]⟩]:=Blk.new w _ _ (by simp);have B0:Bw w (w.alloc (.cells #[.string ⟨#[]⟩,.string ⟨#[]⟩] 337)):=(bQ _ _).alloc (nL _) _;have I0:Hid (_/\_):=And.intro BK0 B0;clear BK0 B0;go_enter Tryz.func279, Tryz.ntmps279;go_wp2_with fail;refine cM (NB.out _) ?_;rintro e w1 ⟨rfl,hb⟩;have I1:Hid (_/\_):=And.intro (I0.out.1.later hb) (chain I0.out.2 hb);clear hb I0;go_wp2_with fail;refine cM (MK.out w1.heap.size _ ((hk.out.later I1.out.2).alloc _) (by simp[go_sem]) (by simp[go_sem]) (by simp[go_sem])) ?_;rintro e w2 ⟨rfl,hb⟩;have hb':=((bQ _ w1).alloc (nL _) _).trans (hb.mono (by simp));have I2:Hid (_/\_):=And.intro (I1.out.1.later hb') (chain I1.out.2 hb');clear hb hb' I1;have k0:=I2.out.1.c 0 _ rfl;have k1:=I2.out.1.c 1 _ rfl;have k2:=I2.out.1.f;have FI:Hid (_/\_):=And.intro (I2.out.1.put [.string R,.string T] rfl) (zah (nL _) [.string R,.string T] 0 I2.out.2);clear I2;go_wp2;refine bodyPost_ret (v := .agg #[.string R,.string T]) ?_ rfl ⟨rfl,FI.out.2⟩;exact res_c1 Tryz.results279 _ _ w.heap.size _ (by kernel_rfl) (run_loadVar_mid _ w.heap.size 0 337 [.string R,.string T] _ FI.out.1.r Tryz.underlying337 rfl (by kernel_rfl))
theorem keep2 {w0:Wo} {B:Nat} {x y:Value} {wa wb:Wo} (hb:Bw wa wb) (h:wa.cell? ⟨B,0,none⟩=some x/\wa.cell? ⟨B,1,none⟩=some y/\Bw w0 wa) :
  wb.cell? ⟨B,0,none⟩=some x/\wb.cell? ⟨B,1,none⟩=some y/\Bw w0 wb:=⟨cell_later hb h.1,cell_later hb h.2.1,chain h.2.2 hb⟩
theorem chd {w W wz:Wo} (h1:Bw w W) (hb:Below W.drew.heap.size W.drew wz):Bw w wz:=chain (chain h1 (bQ _ _).drew) hb
theorem zb0 (m t:Bs) (hm:m.length=16) (ht:t.length<=2000) (w:Wo):Cl 280 #[rv m t] w fun e w'=>e = .returned (sv (pdd (ben t.length 2++m++t)))/\Bw w w':=by
 have NB:Hid (∀w,Cl 334 #[.int .i64 ((st t).size:Int),.int .i64 2] w fun e w'=>e = .returned (sv (ben t.length 2))/\Bw w w'):=by
  rw[zaf];exact zbv t.length 2 (by decide)
 have PD:Hid (∀w,Cl 335 #[sv (ben t.length 2++m++t)] w fun e w'=>e = .returned (sv (pdd (ben t.length 2++m++t)))/\Bw w w'):=zcr _ (by rw[List.length_append,List.length_append,zav,hm];omega);have e3:st (ben t.length 2++m++t)=st (ben t.length 2)++st m++st t:=by rw[<-zcn,<-zcn]
 obtain⟨R,hR⟩:∃R,st (pdd (ben t.length 2++m++t))=R:=⟨_,rfl⟩;unfold rv;unfold sv at *;rw[hR] at PD ⊢;rw[e3] at PD;have hY2:(st (ben t.length 2)).size=2:=by rw[zaf,zav]
 have hM2:(st m).size=16:=by rw[zaf,hm]
 have hT2:(st t).size<=2000:=by rw[zaf];exact ht
 obtain⟨Y,hY⟩:∃Y,st (ben t.length 2)=Y:=⟨_,rfl⟩;obtain⟨M,hM⟩:∃M,st m=M:=⟨_,rfl⟩;obtain⟨T,hT⟩:∃T,st t=T:=⟨_,rfl⟩;rw[hY] at NB PD hY2;rw[hM] at PD hM2 ⊢;rw[hT] at NB PD hT2 ⊢;have hT3:¬9223372036854775807 < 18+T.size:=by omega
 clear hY hM hT hR e3 hm ht;have B0:Hid (Bw w (w.alloc (.cells #[.string M,.string T] 337))):=(bQ _ _).alloc (nL _) _;obtain⟨w0,hw0⟩:∃w0,w.alloc (.cells #[.string M,.string T] 337)=w0:=⟨_,rfl⟩;have c0:w0.cell? ⟨w.heap.size,0,none⟩=some (.string M):=by rw[<-hw0,World.cell?_alloc_new];rfl
 have c1:w0.cell? ⟨w.heap.size,1,none⟩=some (.string T):=by rw[<-hw0,World.cell?_alloc_new];rfl
 rw[hw0] at B0;go_enter Tryz.func280, Tryz.ntmps280;go_wp2_with fail;go_region_held3 (fun w'=>w'.cell? ⟨w.heap.size,0,none⟩=some (.string M)/\w'.cell? ⟨w.heap.size,1,none⟩=some (.string T)/\Below w0.heap.size w0 w') (first|exact⟨c0,c1,(bQ _ _).drew⟩|assumption|exact keep2 (by assumption) (by assumption)) (first|(go_at_call 334;refine cM (NB.out _) ?_;rintro e w1 ⟨rfl,hb1⟩)|(go_at_call 335;refine cM (PD.out _) ?_;rintro e w2 ⟨rfl,hb2⟩));have FF:Hid (Bw w w2):=chain (chd B0.out hb1) hb2;go_wp2;go_ret;exact⟨rfl,FF.out⟩
theorem zcs (s p:Ba) (w:Wo):Cl 311 #[.string s,.string p] w fun e w'=>e = .returned (.bool (p.data.toList.isPrefixOf s.data.toList))/\w'=w:=Any.strings_HasPrefix (ρ:=repAt) { repLies with } s p w
theorem zl1 (l:Bs) (b:UInt8):nm (l++[b])=nm l*256+b.toNat:=by rw[nm,List.foldl_append];rfl
theorem ziF:∀(l:Bs) (n m:Nat),n < 256 ^ m->l.foldl (fun n b=>n*256+b.toNat) n < 256 ^ (m+l.length)
 | [],_,_,h=>h
 | b::l,n,m,h=>by
  have hb:=b.toNat_lt;rw[List.foldl_cons,List.length_cons,show m+(l.length+1)=(m+1)+l.length by omega];refine ziF l _ (m+1) ?_;rw[Nat.pow_succ];omega
theorem zpw (l:Bs):nm l < 256 ^ l.length:=by
 have:=ziF l 0 0 (by decide);rw[Nat.zero_add] at this;exact this
theorem zgd (n:Nat) (b:UInt8) (hn:n < 16777216):bits .or .i64 ((n:Int)*256) (b.toNat:Int)=((n*256+b.toNat:Nat):Int):=by
 have h3:=b.toNat_lt;rw[show (n:Int)*256=((n*256:Nat):Int) by omega,(bits_nat .i64 32 (by decide) (fun n _ _=>by rw[IntKind.wrap_i64];omega) (n*256) b.toNat (by omega) (by omega)).2];have:=Nat.shiftLeft_add_eq_or_of_lt (show b.toNat < 2 ^ 8 from h3) n;rw[Nat.shiftLeft_eq] at this;rw[show n*256=n*2 ^ 8 by omega,<-this]
theorem zkZ (b:Bs) (h1:8<=b.length) (w:Wo) (hk:Hid (Kh w)):Cl 285 #[sv b] w fun e w'=>e = .returned (.int .i64 (gen b:Int))/\Bw w w':=by
 have HD:Hid (∀(g:Nat) (w:Wo),Kh w->Cl 288 #[.int .i64 (g:Int)] w fun e w'=>e = .returned (sv (hd g))/\Bw w w'):=fun g w h=>zer g w h
 have hs:(st b).size=b.length:=zaf b;obtain⟨X,hX⟩:∃X,st b=X:=⟨_,rfl⟩;unfold sv;rw[hX] at hs ⊢;have HX:Hid (st b=X):=hX;clear hX;go_enter Tryz.func285, Tryz.ntmps285;go_wp2;go_loopw [3,5] (fun x i wr=>∃k:Nat,k<=4/\i = .int .i64 (k:Int)/\x = .int .i64 (nm ((b.drop 4).take k):Int)/\wr=w) (fun _ i _=>4 - (intOf i).toNat)
 case atStart=>exact⟨0,Nat.zero_le _,rfl,rfl,rfl⟩
 case round =>
  obtain⟨k,hk4,rfl,rfl,rfl⟩:=hrel;by_cases hk5:k < 4
  ·have g1:(k:Int) < 4:=by omega
   have l0:4+k < X.size:=by omega
   have l1:(4:Int)+(k:Int) < (X.size:Int):=by omega
   have l2:(0:Int)<=4+(k:Int):=by omega
   have hlt:=zpw ((b.drop 4).take k);have hpw:256 ^ ((b.drop 4).take k).length<=16777216:=by
    have:((b.drop 4).take k).length<=3:=by rw[List.length_take];omega
    exact Nat.le_trans (Nat.pow_le_pow_right (by decide) this) (by decide)
   obtain⟨c,hc⟩:∃c,X[4+k]=c:=⟨_,rfl⟩;have hc2:b[4+k]'(by omega)=c:=by
    have:=HX.out;subst this;rw[<-hc];rfl
   have hst:nm ((b.drop 4).take (k+1))=nm ((b.drop 4).take k)*256+c.toNat:=by
    rw[List.take_succ_eq_append_getElem (by rw[List.length_drop];omega),zl1,List.getElem_drop,hc2]
   obtain⟨n,hn⟩:∃n,nm ((b.drop 4).take k)=n:=⟨_,rfl⟩;rw[hn] at hst hlt ⊢;have hcl:=c.toNat_lt;have t1:IntKind.i64.wrap (c.toNat:Int)=(c.toNat:Int):=by rw[IntKind.wrap_i64];omega
   have t2:IntKind.i64.wrap ((n:Int)*256)=(n:Int)*256:=by rw[IntKind.wrap_i64];omega
   have OW:=zgd n c (by omega);have HST:Hid (nm ((b.drop 4).take (k+1))=n*256+c.toNat):=hst;clear hst hn hc2 hlt hpw hcl;go_wp2;go_roundw
   case rel=>exact⟨k+1,by omega,rfl,by rw[HST.out];simp,by first|rfl|trivial⟩
   case measure=>simp[intOf];omega
  ·obtain rfl:k=4:=by omega
   have g0:Hid (gen b=if nm ((b.drop 4).take 4)<=2147483647/\(hd (nm ((b.drop 4).take 4))).isPrefixOf b=true then nm ((b.drop 4).take 4) else 0):=rfl;obtain⟨n,hn⟩:∃n,nm ((b.drop 4).take 4)=n:=⟨_,rfl⟩;rw[hn] at g0 ⊢;clear hn;by_cases hbig:2147483647 < n
   ·have gb:2147483647 < (n:Int):=by omega
    have E0:Hid (gen b=0):=by
     have:=g0.out;rw[if_neg (fun c=>by have:=c.1;omega)] at this;exact this
    obtain⟨z,hz⟩:∃z:Int,(n:Int)=z:=⟨_,rfl⟩;rw[hz] at gb ⊢;clear hz g0 hbig HD;go_wp2;go_ret;exact⟨by rw[E0.out];rfl,bQ _ _⟩
   have gb:¬2147483647 < (n:Int):=by omega
   have hle:Hid (n<=2147483647):=Nat.le_of_not_lt hbig;clear hbig;have PF:Hid (∀w,Cl 311 #[.string X,sv (hd n)] w fun e w'=>e = .returned (.bool ((hd n).isPrefixOf b))/\w'=w):=fun w=>by
    have:=HX.out;subst this;exact zcs (st b) (st (hd n)) w
   obtain⟨Y,hY⟩:∃Y,st (hd n)=Y:=⟨_,rfl⟩;unfold sv at HD PF;have HD2:Hid (Cl 288 #[.int .i64 (n:Int)] wr fun e w'=>e = .returned (.string (st (hd n)))/\Bw wr w'):=HD.out n wr hk.out;rw[hY] at PF HD2;clear hY HD;cases hp:(hd n).isPrefixOf b
   ·rw[hp] at PF g0
    go_wp2_with fail;refine cM HD2.out ?_;rintro e w1 ⟨rfl,hb⟩;have B1:Hid _:=hb;clear hb;go_wp2_with fail;refine cM (PF.out _) ?_;rintro e w2 ⟨rfl,rfl⟩;go_wp2;go_ret;exact⟨by rw[g0.out,if_neg (fun c=>by simp at c)];rfl,B1.out⟩
   ·rw[hp] at PF g0
    go_wp2_with fail;refine cM HD2.out ?_;rintro e w1 ⟨rfl,hb⟩;have B1:Hid _:=hb;clear hb;go_wp2_with fail;refine cM (PF.out _) ?_;rintro e w2 ⟨rfl,rfl⟩;go_wp2;go_ret;exact⟨by rw[g0.out,if_pos (by first|exact⟨hle.out,rfl⟩|exact⟨hle.out,trivial⟩)];rfl,B1.out⟩
def znJ (b a:Bs):Value:=match rof b a with
 | none => .tuple #[rv [] [],.bool false]
 | some t => .tuple #[rv (rmk a t) t,.bool true]
theorem zfb (w:Wo):Hid (Blk (w.alloc (.cells #[.string ⟨#[]⟩,.string ⟨#[]⟩] 337)) w.heap.size [.string ⟨#[]⟩,.string ⟨#[]⟩]/\Bw w (w.alloc (.cells #[.string ⟨#[]⟩,.string ⟨#[]⟩] 337))):=⟨Blk.new w _ _ (by simp),(bQ _ _).alloc (nL _) _⟩
theorem zet (X A:Ba) (w:Wo) (h:X.size < 64):Cl 287 #[.string X,.string A] w fun e w'=>e = .returned (.tuple #[rv [] [],.bool false])/\Bw w w':=by
 have g1:(X.size:Int) < 64:=by omega
 have I0:=zfb w;clear h;go_enter Tryz.func287, Tryz.ntmps287;go_wp2;refine bodyPost_ret (v := .tuple #[.agg #[.string ⟨#[]⟩,.string ⟨#[]⟩],.bool false]) ?_ rfl ⟨rfl,I0.out.2⟩;exact zaS Tryz.results287 _ _ w.heap.size _ _ (by kernel_rfl) (by kernel_rfl) (run_loadVar_mid _ w.heap.size 0 337 [.string ⟨#[]⟩,.string ⟨#[]⟩] _ I0.out.1.r Tryz.underlying337 rfl (by kernel_rfl))
theorem zdz (X A:Ba) (w:Wo) (h:¬X.size < 64) (c0 c1:UInt8) (l0:0 < X.size) (l1:1 < X.size) (hc0:X[0]=c0) (hc1:X[1]=c1) (n:Nat) (hn:c0.toNat*256+c1.toNat=n) (hb:n < 1\/2000 < n\/X.size < 18+n):Cl 287 #[.string X,.string A] w fun e w'=>e = .returned (.tuple #[rv [] [],.bool false])/\Bw w w':=by
 have g1:¬(X.size:Int) < 64:=by omega
 have z0:(0:Int) < (X.size:Int):=by omega
 have z1:(1:Int) < (X.size:Int):=by omega
 have q0:=c0.toNat_lt;have q1:=c1.toNat_lt;have t0:IntKind.i64.wrap (c0.toNat:Int)=(c0.toNat:Int):=by rw[IntKind.wrap_i64];omega
 have t1:IntKind.i64.wrap (c1.toNat:Int)=(c1.toNat:Int):=by rw[IntKind.wrap_i64];omega
 have t2:IntKind.i64.wrap ((c0.toNat:Int)*256)=(c0.toNat:Int)*256:=by rw[IntKind.wrap_i64];omega
 have OW:bits .or .i64 ((c0.toNat:Int)*256) (c1.toNat:Int)=(n:Int):=by rw[<-hn];exact zgd c0.toNat c1 (by omega)
 have hn2:n < 65536:=by omega
 have I0:=zfb w;clear q0 q1 hn;by_cases h1:n < 1
 ·have g2:(n:Int) < 1:=by omega
  clear hb;go_enter Tryz.func287, Tryz.ntmps287;go_wp2_with fail;go_region_with fail
  all_goals go_wp2
  all_goals (refine bodyPost_ret (v := .tuple #[.agg #[.string ⟨#[]⟩,.string ⟨#[]⟩],.bool false]) ?_ rfl ⟨rfl,I0.out.2.drew⟩)
  all_goals (exact zaS Tryz.results287 _ _ w.heap.size _ _ (by kernel_rfl) (by kernel_rfl) (run_loadVar_mid _ w.heap.size 0 337 [.string ⟨#[]⟩,.string ⟨#[]⟩] _ I0.out.1.drew.r Tryz.underlying337 rfl (by kernel_rfl)))
 ·have g2:¬(n:Int) < 1:=by omega
  by_cases h2:2000 < n
  ·have g3:(2000:Int) < (n:Int):=by omega
   clear hb;go_enter Tryz.func287, Tryz.ntmps287;go_wp2_with fail;go_region_with fail
   all_goals go_wp2
   all_goals (refine bodyPost_ret (v := .tuple #[.agg #[.string ⟨#[]⟩,.string ⟨#[]⟩],.bool false]) ?_ rfl ⟨rfl,I0.out.2.drew⟩)
   all_goals (exact zaS Tryz.results287 _ _ w.heap.size _ _ (by kernel_rfl) (by kernel_rfl) (run_loadVar_mid _ w.heap.size 0 337 [.string ⟨#[]⟩,.string ⟨#[]⟩] _ I0.out.1.drew.r Tryz.underlying337 rfl (by kernel_rfl)))
  ·have g3:¬(2000:Int) < (n:Int):=by omega
   have g4:(X.size:Int) < 18+(n:Int):=by omega
   clear hb;go_enter Tryz.func287, Tryz.ntmps287;go_wp2_with fail;go_region_with fail
   all_goals go_wp2
   all_goals (refine bodyPost_ret (v := .tuple #[.agg #[.string ⟨#[]⟩,.string ⟨#[]⟩],.bool false]) ?_ rfl ⟨rfl,I0.out.2.drew⟩)
   all_goals (exact zaS Tryz.results287 _ _ w.heap.size _ _ (by kernel_rfl) (by kernel_rfl) (run_loadVar_mid _ w.heap.size 0 337 [.string ⟨#[]⟩,.string ⟨#[]⟩] _ I0.out.1.drew.r Tryz.underlying337 rfl (by kernel_rfl)))
theorem zeu (X A T M R:Ba) (w:Wo) (hk:Hid (Kh w)) (h:¬X.size < 64) (c0 c1:UInt8) (l0:0 < X.size) (l1:1 < X.size) (hc0:X[0]=c0) (hc1:X[1]=c1) (n:Nat) (hn:c0.toNat*256+c1.toNat=n) (h1:1<=n) (h2:n<=2000) (h3:18+n<=X.size) (hT:X.extract 18 (18+n)=T)
  (NX:Hid (∀w,Kh w->Cl 279 #[.string A,.string T] w fun e w'=>e = .returned (.agg #[.string M,.string T])/\Bw w w'))
  (SC:Hid (∀w,Cl 280 #[.agg #[.string M,.string T]] w fun e w'=>e = .returned (.string R)/\Bw w w'))
  (v:Bool) (PF:Hid (∀w,Cl 311 #[.string X,.string R] w fun e w'=>e = .returned (.bool v)/\w'=w)) :
  Cl 287 #[.string X,.string A] w fun e w'=>e = .returned (if v=true then .tuple #[.agg #[.string M,.string T],.bool true] else .tuple #[.agg #[.string ⟨#[]⟩,.string ⟨#[]⟩],.bool false])/\Bw w w':=by
 have g1:¬(X.size:Int) < 64:=by omega
 have z0:(0:Int) < (X.size:Int):=by omega
 have z1:(1:Int) < (X.size:Int):=by omega
 have q0:=c0.toNat_lt;have q1:=c1.toNat_lt;have t0:IntKind.i64.wrap (c0.toNat:Int)=(c0.toNat:Int):=by rw[IntKind.wrap_i64];omega
 have t1:IntKind.i64.wrap (c1.toNat:Int)=(c1.toNat:Int):=by rw[IntKind.wrap_i64];omega
 have t2:IntKind.i64.wrap ((c0.toNat:Int)*256)=(c0.toNat:Int)*256:=by rw[IntKind.wrap_i64];omega
 have OW:bits .or .i64 ((c0.toNat:Int)*256) (c1.toNat:Int)=(n:Int):=by rw[<-hn];exact zgd c0.toNat c1 (by omega)
 have hn2:n < 65536:=by omega
 have g2:¬(n:Int) < 1:=by omega
 have g3:¬(2000:Int) < (n:Int):=by omega
 have g4:¬(X.size:Int) < 18+(n:Int):=by omega
 have g5:(18:Int)<=18+(n:Int):=by omega
 have g6:18+(n:Int)<=(X.size:Int):=by omega
 have I0:=zfb w;have B0:=I0.out.2.drew;have K0:Hid (Kh (w.alloc (.cells #[.string ⟨#[]⟩,.string ⟨#[]⟩] 337)).drew):=hk.out.later B0;have I1:Hid (_/\_):=And.intro I0.out.1.drew B0;clear q0 q1 hn h1 h2 h3 I0 B0;go_enter Tryz.func287, Tryz.ntmps287;go_wp2_with fail;go_region_with fail
 all_goals go_wp2_with fail
 all_goals
  refine cM (NX.out _ K0.out) ?_;rintro e w1 ⟨rfl,hb⟩;have I2:Hid (_/\_):=And.intro (I1.out.1.later hb) (chain I1.out.2 hb);clear hb K0 I1;have J2:Hid (_/\_/\_):=⟨I2.out.1.later ((bQ _ w1).alloc (nL _) (.cells #[.string M,.string T] 337)),Blk.new w1 [.string M,.string T] 337 (by simp),chain I2.out.2 ((bQ _ w1).alloc (nL _) (.cells #[.string M,.string T] 337))⟩;clear I2;go_wp2_with fail;refine cM (SC.out _) ?_;rintro e w2 ⟨rfl,hb⟩;have I3:Hid (_/\_/\_):=⟨J2.out.1.later hb,J2.out.2.1.later hb,chain J2.out.2.2 hb⟩;clear hb J2;have k0:=I3.out.1.c 0 _ rfl;have k1:=I3.out.1.c 1 _ rfl;have k2:=I3.out.1.f;have r0:=I3.out.2.1.c 0 _ rfl;have r1:=I3.out.2.1.c 1 _ rfl;go_wp2_with fail;refine cM (PF.out _) ?_;rintro e w3 ⟨rfl,rfl⟩;cases v
  ·have FI:Hid (_/\_):=And.intro (I3.out.1.put [.string ⟨#[]⟩,.string ⟨#[]⟩] rfl) (zah (nL _) [.string ⟨#[]⟩,.string ⟨#[]⟩] 0 I3.out.2.2)
   clear I3;go_wp2;refine bodyPost_ret (v := .tuple #[.agg #[.string ⟨#[]⟩,.string ⟨#[]⟩],.bool false]) ?_ rfl ⟨by simp,FI.out.2⟩;exact zaS Tryz.results287 _ _ w.heap.size _ _ (by kernel_rfl) (by kernel_rfl) (run_loadVar_mid _ w.heap.size 0 337 [.string ⟨#[]⟩,.string ⟨#[]⟩] _ FI.out.1.r Tryz.underlying337 rfl (by kernel_rfl))
  ·have FI:Hid (_/\_):=And.intro (I3.out.1.put [.string M,.string T] rfl) (zah (nL _) [.string M,.string T] 0 I3.out.2.2)
   clear I3;go_wp2;refine bodyPost_ret (v := .tuple #[.agg #[.string M,.string T],.bool true]) ?_ rfl ⟨by simp,FI.out.2⟩;exact zaS Tryz.results287 _ _ w.heap.size _ _ (by kernel_rfl) (by kernel_rfl) (run_loadVar_mid _ w.heap.size 0 337 [.string M,.string T] _ FI.out.1.r Tryz.underlying337 rfl (by kernel_rfl))
theorem zdA (b a:Bs) (ha:a.length=16) (w:Wo) (hk:Hid (Kh w)):Cl 287 #[sv b,sv a] w fun e w'=>e = .returned (znJ b a)/\Bw w w':=by
 have hs:(st b).size=b.length:=zaf b;unfold znJ rof;by_cases h:b.length < 64
 ·rw[if_pos h]
  exact zet (st b) (st a) w (by omega)
 ·rw[if_neg h]
  obtain⟨c0,c1,r,rfl⟩:∃c0 c1 r,b=c0::c1::r:=by
   match b,h with
   | c0::c1::r,_=>exact⟨c0,c1,r,rfl⟩
   | [_],h=>simp at h
   | [],h=>simp at h
  have en:nm ((c0::c1::r).take 2)=c0.toNat*256+c1.toNat:=by simp[nm]
  rw[en];obtain⟨n,hn⟩:∃n,c0.toNat*256+c1.toNat=n:=⟨_,rfl⟩;rw[hn];by_cases hb:n < 1\/2000 < n\/(c0::c1::r).length < 18+n
  ·rw[if_pos hb]
   exact zdz (st (c0::c1::r)) (st a) w (by omega) c0 c1 (by omega) (by omega) rfl rfl n hn (by rw[hs];exact hb)
  ·rw[if_neg hb]
   obtain⟨t,ht⟩:∃t,((c0::c1::r).drop 18).take n=t:=⟨_,rfl⟩;rw[ht];have hl:t.length<=2000:=by rw[<-ht,List.length_take];omega
   have eT:(st (c0::c1::r)).extract 18 (18+n)=st t:=by
    rw[zco,<-ht,List.drop_take,show 18+n - 18=n by omega]
   have:=zeu (st (c0::c1::r)) (st a) (st t) (st (rmk a t)) (st (rcd a t)) w hk (by omega) c0 c1 (by omega) (by omega) rfl rfl n hn (by omega) (by omega) (by omega) eT
    (fun w h=>zes a t ha hl w h) (fun w=>zb0 (rmk a t) t rfl hl w) _ (fun w=>zcs _ _ w)
   refine this.mono fun e w' ⟨he,hb⟩=>⟨?_,hb⟩
   rw[he];have e2:(st (rcd a t)).data.toList.isPrefixOf (st (c0::c1::r)).data.toList=(rcd a t).isPrefixOf (c0::c1::r):=rfl;rw[e2]
   split <;> rfl
abbrev plc (p fr mn:Nat):Value := .agg #[.pointer (some ⟨p,0,none⟩),.int .i64 (fr:Int),.int .i64 (mn:Int)]
theorem ziG (X:Ba) (i j:Nat) (x y:Int) (hx:x=(i:Int)) (hy:y=(j:Int)) (h1:i<=j) (h2:j<=X.size) (w:Wo):(Instr.slice 9 (.string X) (some (.int .i64 x)) (some (.int .i64 y)) none).run Tryz.prog w = .ok (.string (X.extract i j)) w:=by
 subst hx hy;have h3:(0:Int)<=(j:Int):=by omega
 have h4:(0:Int)<=(i:Int):=by omega
 have h5:(i:Int)<=(j:Int):=by omega
 have h6:(j:Int)<=(X.size:Int):=by omega
 simp[Instr.slice,Instr.sliceBounds,Instr.sliceBound,asIntOf,run_underlying Tryz.underlying9, h1,h2]
def Ds (w wr:Wo) (p:Nat) (F:Nat->Prop) (s:St) (w':Wo):Prop:=∃F',Dl w w' p F' s/\Nx wr F F'/\Bf F wr w'
theorem zk0 {s:St} {k j m:Nat} {b:Bs} (hj:j < m):wrs s (k+j) (chs (m - j) (b.drop (64*j)))=thn (wrE s ((k+j:Nat):Int) ((b.drop (64*j)).take 64),wrS s ((k+j:Nat):Int) ((b.drop (64*j)).take 64)) fun s'=>wrs s' (k+(j+1)) (chs (m - (j+1)) (b.drop (64*(j+1)))):=by
 obtain⟨d,hd⟩:∃d,m - j=d+1:=⟨m - j - 1,by omega⟩;rw[hd,chs,wrs,show m - (j+1)=d by omega,List.drop_drop,show 64*j+64=64*(j+1) by omega];rfl
theorem zdB (s:St) (k:Int) (t:Bs):(wrS s k t).l.length<=s.l.length+1:=by
 unfold wrS
 split
 ·omega
 ·split
  ·omega
  ·split
   ·show s.l.length<=_
    omega
   ·show (s.l++[_]).length<=_
    rw[List.length_append];exact nL _
theorem Nx.apart {w:Wo} {F F':Nat->Prop} (h:Nx w F F') {B:Nat} (hF:¬F B) (hl:B < w.heap.size):¬F' B:=fun c=>by
 rcases h B c with e|e
 ·exact hF e
 ·omega
structure Wr (w wr0:Wo) (p:Nat) (F:Nat->Prop) (fr mn:Nat) (wr:Wo) (F':Nat->Prop) (s:St):Prop where
 dl:Dl w wr p F' s
 nx:Nx wr0 F F'
 bf:Bf F wr0 wr
 bk:Blk wr wr0.heap.size [.pointer (some ⟨p,0,none⟩),.int .i64 (fr:Int),.int .i64 (mn:Int)]
 ap:¬F' wr0.heap.size
theorem Wr.stp {w wr0 wr wr':Wo} {p:Nat} {F F' F'':Nat->Prop} {fr mn:Nat} {s t:St} (h:Wr w wr0 p F fr mn wr F' s) (k:Dl w wr' p F'' t) (hx:Nx wr F' F'') (hb:Bf F' wr wr'):Wr w wr0 p F fr mn wr' F'' t :=
 ⟨k,h.nx.trans hx h.bf.size,h.bf.trans h.nx hb,h.bk.bf hb h.ap,hx.apart h.ap h.bk.lt⟩
theorem Wr.begin {w wr:Wo} {p:Nat} {F:Nat->Prop} {s:St} (h:Dl w wr p F s) (fr mn:Nat) (ty:TypeId):Wr w wr p F fr mn (wr.alloc (.cells #[.pointer (some ⟨p,0,none⟩),.int .i64 (fr:Int),.int .i64 (mn:Int)] ty)) F s :=
 ⟨h.later ((bQ _ _).alloc (nL _) _),Nx.refl _ _,Bf.of ((bQ _ _).alloc (nL _) _),Blk.new wr _ ty (by simp),fun c=>Nat.lt_irrefl _ (h.at_.lt c)⟩
theorem Wr.ds {w wr0 wr:Wo} {p:Nat} {F F':Nat->Prop} {fr mn:Nat} {s:St} (h:Wr w wr0 p F fr mn wr F' s):Ds w wr0 p F s wr:=⟨F',h.dl,h.nx,h.bf⟩
theorem Wr.drew {w wr0 wr:Wo} {p:Nat} {F F':Nat->Prop} {fr mn:Nat} {s:St} (h:Wr w wr0 p F fr mn wr F' s):Wr w wr0 p F fr mn wr.drew F' s :=
 ⟨h.dl.later (bQ _ _).drew,h.nx,h.bf.later (bQ _ _).drew,h.bk.drew,h.ap⟩
theorem zbV (w v:Wo) (p:Nat) (F:Nat->Prop) (s:St) (fr at_ mn:Nat) (b:Bs) (m:Nat) (hb:b.length=64*m) (hm:m<=100) (hz:fr+at_<=4000) (hl:s.l.length+m<=1000000) (h:Hid (Dl w v p F s)) :
  Cl 222 #[plc p fr mn,.int .i64 (at_:Int),sv b] v fun e w'=>e = .returned (.int .i64 (wrb s (fr+at_) b).1)/\Ds w v p F (wrb s (fr+at_) b).2 w':=by
 have hs:(st b).size=64*m:=by rw[zaf,hb]
 have I0:Hid (Wr w v p F fr mn _ F s):=Wr.begin h.out fr mn 235;have CUT:Hid (∀j,(st b).extract (64*j) (64*j+64)=st ((b.drop (64*j)).take 64)):=fun j=>by
  rw[zco,List.drop_take,show 64*j+64 - 64*j=64 by omega]
 have EW:Hid (wrb s (fr+at_) b=wrs s (fr+at_) (chs m b)):=by
  show wrb s (fr+at_) b=_;rw[wrb,hb,show 64*m / 64=m by omega]
 have WL:Hid (∀(wr:Wo) (F:Nat->Prop) (s:St) (k:Int) (t:Bs),s.l.length<=1000000->Dl w wr p F s->Cl 292 #[.pointer (some ⟨p,0,none⟩),.int .i64 k,.string (st t)] wr fun e w'=>e = .returned (.int .i64 (wrE s k t))/\∃F',Dl w w' p F' (wrS s k t)/\Nx wr F F'/\Bf F wr w'):=fun wr F s k t hl h=>zpl w wr p F s k (st t) hl h
 obtain⟨r,hr⟩:∃r,wrb s (fr+at_) b=r:=⟨_,rfl⟩;rw[hr] at EW ⊢;obtain⟨X,hX⟩:∃X,st b=X:=⟨_,rfl⟩;unfold sv plc;rw[hX] at hs CUT ⊢;have HS:Hid (X.size=64*m):=hs;clear hX hr hb h hs;obtain⟨wa,hwa⟩:∃wa,v.alloc (.cells #[.pointer (some ⟨p,0,none⟩),.int .i64 (fr:Int),.int .i64 (mn:Int)] 235)=wa:=⟨_,rfl⟩;obtain⟨B,hB⟩:∃B,v.heap.size=B:=⟨_,rfl⟩;rw[hwa] at I0;go_enter Tryz.func222, Tryz.ntmps222;go_wp2;rw[<-hB] at *;go_loopw [7] (fun i wr=>∃(j:Nat) (F':Nat->Prop) (s':St),j<=m/\i = .int .i64 ((64*j:Nat):Int)/\Hid (Wr w v p F fr mn wr F' s'/\s'.l.length<=s.l.length+j/\r=wrs s' (fr+at_+j) (chs (m - j) (b.drop (64*j))))) (fun i _=>64*m - (intOf i).toNat)
 case atStart=>exact⟨0,F,s,Nat.zero_le _,rfl,I0.out,nL _,EW.out⟩
 case round =>
  obtain⟨j,F',s',hj,rfl,I⟩:=hrel;clear I0 EW hwa;by_cases hjm:j < m
  ·have hx:=zk0 (s:=s') (k:=fr+at_) (b:=b) hjm
   have hr:=I.out.2.2;rw[hx] at hr;have HR:Hid (r=_):=hr;clear hr hx;have CT:=CUT.out j;obtain⟨t,ht⟩:∃t,(b.drop (64*j)).take 64=t:=⟨_,rfl⟩;rw[ht] at CT HR;clear ht;obtain⟨q,hq⟩:∃q,64*j=q:=⟨_,rfl⟩;rw[hq] at CT ⊢;have hs:=HS.out;have g1:(q:Int) < (X.size:Int):=by omega
   have g2:(q:Int)+64<=(X.size:Int):=by omega
   have g3:(q:Int) / 64=(j:Int):=by omega
   have g4:(0:Int)<=(q:Int):=by omega
   have g5:(q:Int)<=(q:Int)+64:=by omega
   have hq2:q<=6400:=by omega
   have hj2:j<=100:=by omega
   have y1:IntKind.i64.wrap ((q:Int)+64)=(q:Int)+64:=by rw[IntKind.wrap_i64];omega
   have y4:IntKind.i64.wrap (j:Int)=(j:Int):=by rw[IntKind.wrap_i64];omega
   have y2:IntKind.i64.wrap ((fr:Int)+(at_:Int))=(fr:Int)+(at_:Int):=by rw[IntKind.wrap_i64];omega
   have y3:IntKind.i64.wrap ((fr:Int)+(at_:Int)+(j:Int))=(fr:Int)+(at_:Int)+(j:Int):=by rw[IntKind.wrap_i64];omega
   clear hs;have W1:Hid (Cl 292 #[.pointer (some ⟨p,0,none⟩),.int .i64 ((fr:Int)+(at_:Int)+(j:Int)),.string (st t)] wr.drew fun e w'=>e = .returned (.int .i64 (wrE s' ((fr+at_+j:Nat):Int) t))/\∃F'',Wr w v p F fr mn w' F'' (wrS s' ((fr+at_+j:Nat):Int) t)):=by
    have:=WL.out wr.drew F' s' ((fr+at_+j:Nat):Int) t (by have:=I.out.2.1;omega) I.out.1.drew.dl;have e:((fr+at_+j:Nat):Int)=(fr:Int)+(at_:Int)+(j:Int):=by omega
    rw[e] at this ⊢;exact this.mono fun _ _ ⟨he,F'',k1,k2,k3⟩=>⟨he,F'',I.out.1.drew.stp k1 k2 k3⟩
   have L1:Hid ((wrS s' ((fr+at_+j:Nat):Int) t).l.length<=s.l.length+(j+1)):=Nat.le_trans (zdB _ _ _) (by have:=I.out.2.1;omega);have k0:=I.out.1.bk.c 0 _ rfl;have k1:=I.out.1.bk.c 1 _ rfl;obtain⟨x,hx⟩:∃x,wrE s' ((fr+at_+j:Nat):Int) t=x:=⟨_,rfl⟩;obtain⟨s2,hs2⟩:∃s2,wrS s' ((fr+at_+j:Nat):Int) t=s2:=⟨_,rfl⟩;rw[hx,hs2] at HR W1;rw[hs2] at L1;clear I hx hs2 CUT;obtain⟨T,hT⟩:∃T,st t=T:=⟨_,rfl⟩;rw[hT] at CT W1;have SLI:∀W,(Instr.slice 9 (.string X) (some (.int .i64 (q:Int))) (some (.int .i64 ((q:Int)+64))) none).run Tryz.prog W = .ok (.string T) W:=fun W=>by
    rw[<-CT];exact ziG X q (q+64) _ _ rfl (by omega) (by omega) (by omega) W
   clear hT CT;by_cases h0:x=0
   ·subst h0
    have HR2:Hid (r=wrs s2 (fr+at_+(j+1)) (chs (m - (j+1)) (b.drop (64*(j+1))))):=HR.out;clear HR;go_wp2_with fail;go_region_with (first|(go_at_call 292;refine cM W1.out ?_;rintro e w1 ⟨rfl,F2,J2⟩))
    all_goals
     go_wp2;go_roundw
     case rel=>exact⟨j+1,F2,s2,by omega,by first|rfl|(congr 1;omega),J2,L1.out,HR2.out⟩
     case measure=>simp[intOf];omega
   ·have HR2:Hid (r=(x,s2)):=by
     show r=(x,s2);rw[HR.out,zaA h0]
    clear HR;go_wp2_with fail;go_region_with (first|(go_at_call 292;refine cM W1.out ?_;rintro e w1 ⟨rfl,F2,J2⟩))
    all_goals
     have FF:Hid (Ds w v p F s2 w1):=J2.ds;go_wp2;go_ret;exact⟨by rw[HR2.out];rfl,by rw[HR2.out];exact FF.out⟩
  ·obtain rfl:j=m:=by omega
   have HR2:Hid (r=(0,s')):=by
    show r=(0,s');rw[I.out.2.2,Nat.sub_self];rfl
   have FF:Hid (Ds w v p F s' wr):=I.out.1.ds;have g1:¬((64*j:Nat):Int) < (X.size:Int):=by rw[HS.out];omega
   obtain⟨q,hq⟩:∃q,64*j=q:=⟨_,rfl⟩;rw[hq] at g1 ⊢;clear I hq;go_wp2;go_ret;exact⟨by rw[HR2.out];rfl,by rw[HR2.out];exact FF.out⟩
end Go.Proofs.YtjcppbhgjchjaaaGreatDoor.Sto
