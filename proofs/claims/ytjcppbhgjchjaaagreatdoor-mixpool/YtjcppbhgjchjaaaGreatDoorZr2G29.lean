/- A part of the walk. -/
import Derived.Test.YtjcppbhgjchjaaaGreatDoorZr2G28
set_option maxHeartbeats 8000000
set_option maxRecDepth 20000
namespace Go.Proofs.YtjcppbhgjchjaaaGreatDoor.Sto
open Go.RowKit Go.Proofs.Fd Go.Proofs.Dk
structure Dl (w wr:World) (p:Nat) (F:Nat->Prop) (s:St):Prop where
 at_:KAt wr p F s
 new:∀g,F g->w.heap.size<=g
 below:Bw w wr
theorem Dl.stp {w wr w':World} {p:Nat} {F F':Nat->Prop} {s t:St} (h:Dl w wr p F s) (h1:KAt w' p F' t) (h2:Nx wr F F') (h3:Bf F wr w'):Dl w w' p F' t :=
 ⟨h1,fun g hg=>by
  rcases h2 g hg with c|c
  ·exact h.new g c
  ·exact Nat.le_trans h.below.size c,h.below.trans (h3.below h.new h.below.size)⟩
theorem Dl.later {w wr w':World} {p:Nat} {F:Nat->Prop} {s:St} (h:Dl w wr p F s) (hb:Bw wr w'):Dl w w' p F s:=⟨h.at_.later hb,h.new,chain h.below hb⟩
theorem newL (w wr:World) (n:Nat) (h1:1<=n) (h2:n<=1024) (hb:Bw w wr) :
  Cl 11 #[.int .i64 (n:Int)] wr fun e w'=>∃p F,e = .returned (.tuple #[.pointer (some ⟨p,0,none⟩),.int .i64 0])/\Dl w w' p F (St.init n)/\(∀g,F g->wr.heap.size<=g)/\Bw wr w' :=
 (new_any n h1 h2 wr).mono fun _ _ ⟨p,F,he,k1,k2,k3⟩=>⟨p,F,he,⟨k1,fun g hg=>Nat.le_trans hb.size (k2 g hg),chain hb k3⟩,k2,k3⟩
theorem zu1 (w wr:World) (p:Nat) (F:Nat->Prop) (s:St) (k:Int) (t:Ba) (hl:s.l.length<=1000000) (h:Dl w wr p F s) :
  Cl 292 #[.pointer (some ⟨p,0,none⟩),.int .i64 k,.string t] wr fun e w'=>e = .returned (.int .i64 (wrE s k t.data.toList))/\∃F',Dl w w' p F' (wrS s k t.data.toList)/\Nx wr F F'/\Bf F wr w' :=
 (zmk p F s k t wr h.at_ hl).mono fun _ _ ⟨he,F',h1,h2,h3⟩=>⟨he,F',h.stp h1 h2 h3,h2,h3⟩
theorem zwZ (w wr:World) (p:Nat) (F:Nat->Prop) (s:St) (hl:s.l.length<=1000000) (h:Dl w wr p F s) :
  Cl 283 #[.pointer (some ⟨p,0,none⟩)] wr fun e w'=>e = .returned (.int .i64 (syE s))/\∃F',Dl w w' p F' (syS s)/\Nx wr F F'/\Bf F wr w' :=
 (zpu p F s wr h.at_ hl).mono fun _ _ ⟨he,F',h1,h2,h3⟩=>⟨he,F',h.stp h1 h2 h3,h2,h3⟩
theorem zw0 (w wr:World) (p:Nat) (F:Nat->Prop) (s:St) (k:Int) (h:Dl w wr p F s) :
  Cl 289 #[.pointer (some ⟨p,0,none⟩),.int .i64 k] wr fun e w'=>e = .returned (.tuple #[sv (rdV s k),.int .i64 (rch s k)])/\w'=wr:=read_any p F s k wr h.at_
def zs:Nat->Bs:=fun _=>List.replicate 64 0
theorem zdT (a b:Bs):st a++st b=st (a++b):=by
 apply ByteArray.ext;rw[ByteArray.data_append];simp[st]
theorem zai (a:Bs):(st a).size=a.length:=by simp[st,ByteArray.size]
theorem zdU (l:Bs) (i j:Nat):(st l).extract i j=st ((l.take j).drop i):=by
 apply ByteArray.ext;apply Array.ext';simp[st,ByteArray.data_extract,List.extract_eq_take_drop,List.drop_take]
def cC:Bs:=List.replicate 61 97
end Go.Proofs.YtjcppbhgjchjaaaGreatDoor.Sto
namespace Go.Proofs.YtjcppbhgjchjaaaGreatDoor
open Go.RowKit Go.Proofs.Fd
def zpv:Go.Shelf.Ren:=⟨fun _ => 79, fun t=>if t=3 then 3 else if t=4 then 4 else if t=5 then 5 else if t=9 then 9 else if t=37 then 99 else if t=47 then 247 else 0, fun n=>n⟩
theorem zjQ:LaysPu.n25 Tryz.prog zpv :=
 { mixed:=by kernel_rfl,f25:=by kernel_rfl,t0:=by kernel_rfl,a0:=fun _=>by kernel_rfl,z0:=fun _=>by kernel_rfl,v0:=fun _=>by kernel_rfl,i0:=by kernel_rfl,t3:=by kernel_rfl,a3:=fun _=>by kernel_rfl,z3:=fun _=>by kernel_rfl,v3:=fun _=>by kernel_rfl,i3:=by kernel_rfl,t4:=by kernel_rfl,a4:=fun _=>by kernel_rfl,z4:=fun _=>by kernel_rfl,v4:=fun _=>by kernel_rfl,i4:=by kernel_rfl,t5:=by kernel_rfl,a5:=fun _=>by kernel_rfl,z5:=fun _=>by kernel_rfl,v5:=fun _=>by kernel_rfl,i5:=by kernel_rfl,t9:=by kernel_rfl,a9:=fun _=>by kernel_rfl,z9:=fun _=>by kernel_rfl,v9:=fun _=>by kernel_rfl,i9:=by kernel_rfl,t37:=by kernel_rfl,a37:=fun _=>by kernel_rfl,z37:=fun _=>by kernel_rfl,v37:=fun _=>by kernel_rfl,i37:=by kernel_rfl,t47:=by kernel_rfl,a47:=fun _=>by kernel_rfl,z47:=fun _=>by kernel_rfl,v47:=fun _=>by kernel_rfl,i47:=by kernel_rfl }
theorem zmn (s:Ba) (hs:s.size<=281474976710656) (w:World) :
  Cl 79 #[.string s] w fun e w'=>e = .returned (.string s)/\Bw w w':=AnyPu.stringslite_Clone zjQ s w hs
theorem zc6 (s:Ba) (hs:s.size<=281474976710656) (w:World) :
  Cl 46 #[.string s] w fun e w'=>e = .returned (.string s)/\Bw w w':=by
 go_enter Tryz.func46, Tryz.ntmps46;go_wp2_with fail;refine Calls.mono (zmn s hs _) ?_;rintro e w1 ⟨rfl,hb⟩;have B1:Hid (Bw w w1):=hb;clear hb;go_wp2;go_ret;exact⟨rfl,B1.out⟩
end Go.Proofs.YtjcppbhgjchjaaaGreatDoor
namespace Go.Proofs.Lg
open Go.Proofs.Dk
def mk (l:Bs):Bs:=(Hs.sha l).take 16
theorem zgt (l:Bs):(mk l).length=16:=rfl
def zr (n:Nat):Bs:=List.replicate n 0
theorem zcN (n:Nat):(zr n).length=n:=List.length_replicate
def ben (n m:Nat):Bs:=(List.range m).map fun i=>UInt8.ofNat (n / 2 ^ (8*(m - 1 - i)))
theorem zaY (n m:Nat):(ben n m).length=m:=by simp[ben]
def nm (l:Bs):Nat:=l.foldl (fun n b=>n*256+b.toNat) 0
def pdd (b:Bs):Bs:=b++zr ((64 - b.length % 64) % 64)
theorem zmo (b:Bs):(pdd b).length=64*((b.length+63) / 64):=by
 rw[pdd,List.length_append,zcN];omega
def hf (g:Nat):Bs:=[76,79,71,0]++ben g 4
theorem ziS (g:Nat):(hf g).length=8:=by rw[hf,List.length_append,zaY];rfl
def hm (g:Nat):Bs:=mk (hf g)
def hd (g:Nat):Bs:=pdd (hf g++hm g)
theorem zdh (g:Nat):(hd g).length=64:=by
 rw[hd,zmo,List.length_append,ziS,hm,zgt]
def rmk (a t:Bs):Bs:=mk (a++ben t.length 2++t)
def rcd (a t:Bs):Bs:=pdd (ben t.length 2++rmk a t++t)
def sn (t:Bs):Nat:=(18+t.length+63) / 64
theorem zbs (a t:Bs):(rcd a t).length=64*sn t:=by
 rw[rcd,zmo,List.length_append,List.length_append,zaY,rmk,zgt];rfl
theorem zmp (t:Bs):1<=sn t:=by unfold sn;omega
def gen (b:Bs):Nat:=if nm ((b.drop 4).take 4)<=2147483647/\(hd (nm ((b.drop 4).take 4))).isPrefixOf b=true then nm ((b.drop 4).take 4) else 0
theorem zqW (b:Bs):gen b<=2147483647:=by
 unfold gen
 split
 ·rename_i h
  exact h.1
 ·exact Nat.zero_le _
def rof (b a:Bs):Option Bs :=
 if b.length < 64 then none
 else if nm (b.take 2) < 1\/2000 < nm (b.take 2)\/b.length < 18+nm (b.take 2) then none
 else if (rcd a ((b.drop 18).take (nm (b.take 2)))).isPrefixOf b=true then some ((b.drop 18).take (nm (b.take 2))) else none
theorem zgu {b a t:Bs} (h:rof b a=some t):64*sn t<=b.length/\1<=t.length/\t.length<=2000:=by
 unfold rof at h
 split at h
 ·cases h
 ·split at h
  ·cases h
  ·split at h
   ·rename_i h1 h2 h3
    injection h with h
    obtain⟨r,hr⟩:=List.isPrefixOf_iff_prefix.1 h3;have hl:=congrArg List.length hr;rw[List.length_append,zbs,h] at hl;refine⟨by omega,?_⟩;rw[<-h,List.length_take,List.length_drop];omega
   ·cases h
def zec:Nat->Bs->Bs->List Bs
 | 0,_,_=>[]
 | m+1,b,a=>match rof b a with
  | none=>[]
  | some t=>t::zec m (b.drop (64*sn t)) (rmk a t)
def tkn:Nat->List Bs->Nat
 | k,[]=>k
 | k,t::l=>tkn (k+sn t) l
def mks:Bs->List Bs->Bs
 | a,[]=>a
 | a,t::l=>mks (rmk a t) l
theorem zfn:∀(l:List Bs) (k:Nat) (t:Bs),tkn k (l++[t])=tkn k l+sn t
 | [],_,_=>rfl
 | x::l,k,t=>by rw[List.cons_append,tkn,zfn l,tkn]
theorem zfo:∀(l:List Bs) (a:Bs) (t:Bs),mks a (l++[t])=rmk (mks a l) t
 | [],_,_=>rfl
 | x::l,a,t=>by rw[List.cons_append,mks,zfo l,mks]
theorem zfp:∀(l:List Bs) (a:Bs),a.length=16->(mks a l).length=16
 | [],_,h=>h
 | _::l,_,_=>zfp l _ (zgt _)
def thn (x:Int×St) (k:St->Int×St):Int×St:=if x.1=0 then k x.2 else x
theorem zaB {x:Int×St} {k:St->Int×St} (h:x.1=0):thn x k=k x.2:=if_pos h
theorem zaS {x:Int×St} {k:St->Int×St} (h:x.1≠0):thn x k=x:=if_neg h
def chs:Nat->Bs->List Bs
 | 0,_=>[]
 | m+1,b=>b.take 64::chs m (b.drop 64)
theorem zc7:∀(m:Nat) (b:Bs),(chs m b).length=m
 | 0,_=>rfl
 | m+1,b=>by rw[chs,List.length_cons,zc7 m]
theorem zqX:∀(m:Nat) (b:Bs),b.length=64*m->∀x∈chs m b,x.length=64
 | 0,_,_,x,hx=>by cases hx
 | m+1,b,h,x,hx=>by
  rcases List.mem_cons.1 hx with rfl|hx
  ·rw[List.length_take]
   omega
  ·exact zqX m (b.drop 64) (by rw[List.length_drop];omega) x hx
def wrs:St->Nat->List Bs->Int×St
 | s,_,[]=>(0,s)
 | s,k,b::l=>thn (wrE s k b,wrS s k b) fun s'=>wrs s' (k+1) l
def wrb (s:St) (k:Nat) (b:Bs):Int×St:=wrs s k (chs (b.length / 64) b)
def cls:St->Nat->Nat->Bool->Int×St
 | s,_,0,d=>if d=true then (syE s,syS s) else (0,s)
 | s,k,m+1,d=>if s.sh k=zr 64 then cls s (k+1) m d else thn (wrE s k (zr 64),wrS s k (zr 64)) fun s'=>cls s' (k+1) m true
def cln (s:St) (k m:Nat):Int×St:=if s.down=true then (150,s) else cls s k m false
def pts:St->Nat->Nat->Bs->List Bs->Int×St
 | s,_,_,_,[]=>(0,s)
 | s,k,tk,a,t::l=>thn (wrb s (k+tk) (rcd a t)) fun s'=>pts s' k (tk+sn t) (rmk a t) l
def bgn (s:St) (k H g:Nat) (ts:List Bs):Int×St :=
 thn (cln s k H) fun s1=>thn (pts s1 k 1 (hm g) ts) fun s2=>thn (syE s2,syS s2) fun s3=>thn (wrb s3 k (hd g)) fun s4=>(syE s4,syS s4)
def hb (s:St) (k H:Nat):Bs:=(List.range H).flatMap fun i=>s.sh (k+i)
theorem zdV (s:St) (k H:Nat):hb s k (H+1)=hb s k H++s.sh (k+H):=by
 simp[hb,List.range_succ]
theorem zeB {s:St} (h:Ok s) (k H:Nat):(hb s k H).length=64*H:=by
 induction H with
 | zero=>rfl
 | succ n ih =>
  rw[zdV,List.length_append,ih,h.sh64];omega
structure Lo where
 h:Nat
 g:Nat
 ts:List Bs
def Lo.tk (x:Lo):Nat:=tkn 1 x.ts
def Lo.mr (x:Lo):Bs:=mks (hm x.g) x.ts
def use (s:St):Nat×Nat:=if gen (hb s 0 (s.n / 2)) < gen (hb s (s.n / 2) (s.n / 2)) then (1,gen (hb s (s.n / 2) (s.n / 2))) else (0,gen (hb s 0 (s.n / 2)))
def zjR (s:St) (k H g:Nat):List Bs:=zec H ((hb s k H).drop 64) (hm g)
def opn (s:St):(Int×St)×Lo :=
 if s.n / 2 < 2 then ((4,s),⟨0,0,[]⟩)
 else if s.down=true then ((150,s),⟨0,0,[]⟩)
 else if (use s).2=0 then (bgn s 0 (s.n / 2) 1 [],⟨0,1,[]⟩)
 else
  let ts:=zjR s ((use s).1*(s.n / 2)) (s.n / 2) (use s).2
  (cln s ((use s).1*(s.n / 2)+tkn 1 ts) (s.n / 2 - tkn 1 ts),⟨(use s).1,(use s).2,ts⟩)
def may (t:Bs):Int:=if t.length < 1 then 1 else if 2000 < t.length then 2 else 0
def app (s:St) (x:Lo) (t:Bs):(Int×St)×Lo :=
 if may t≠0 then ((may t,s),x)
 else if s.n / 2 < x.tk+sn t then ((151,s),x)
 else
  let y:=wrb s (x.h*(s.n / 2)+x.tk) (rcd x.mr t)
  (y,if y.1=0 then { x with ts:=x.ts++[t] } else x)
def zg1:List Bs->Int
 | []=>0
 | t::l=>if may t≠0 then may t else zg1 l
def sns:List Bs->Nat
 | []=>0
 | t::l=>sn t+sns l
def cmp (s:St) (x:Lo) (ts:List Bs):(Int×St)×Lo :=
 if zg1 ts≠0 then ((zg1 ts,s),x)
 else if s.n / 2 - 1 < sns ts then ((151,s),x)
 else if 2147483647<=x.g then ((2,s),x)
 else
  let y:=bgn s ((1 - x.h)*(s.n / 2)) (s.n / 2) (x.g+1) ts
  (y,if y.1=0 then ⟨1 - x.h,x.g+1,ts⟩ else x)
theorem zu2 (s:St):(use s).2<=2147483647:=by
 unfold use
 split
 ·exact zqW _
 ·exact zqW _
theorem zu3 (s:St):(opn s).2.g<=2147483647:=by
 unfold opn
 split
 ·exact Nat.zero_le _
 ·split
  ·exact Nat.zero_le _
  ·split
   ·show (1:Nat)<=_
    decide
   ·exact zu2 s
theorem zgv:∀(m:Nat) (b a:Bs) (k:Nat),b.length=64*m->tkn k (zec m b a)<=k+m/\∀t∈zec m b a,1<=t.length/\t.length<=2000
 | 0,_,_,k,_=>⟨Nat.le_refl _,fun _ h=>by cases h⟩
 | m+1,b,a,k,hb=>by
  rw[zec]
  split
  ·exact⟨Nat.le_add_right _ _,fun _ h=>by cases h⟩
  ·rename_i t ht
   have hl:=zgu ht;have hp:=zmp t;refine⟨?_,fun x hx => ?_⟩
   ·rw[tkn]
    obtain⟨d,hd⟩:∃d,m=d+(sn t - 1):=⟨m - (sn t - 1),by omega⟩;have:=scan_le m d (b.drop (64*sn t)) (rmk a t) (k+sn t) (by rw[List.length_drop];omega);omega
   ·rcases List.mem_cons.1 hx with rfl|hx
    ·exact hl.2
    ·exact scan_ok m _ _ x hx
 where
 scan_ok:∀(m:Nat) (b a:Bs),∀t∈zec m b a,1<=t.length/\t.length<=2000
  | 0,_,_,_,h=>by cases h
  | m+1,b,a,x,hx=>by
   rw[zec] at hx
   split at hx
   ·cases hx
   ·rename_i t ht
    rcases List.mem_cons.1 hx with rfl|hx
    ·exact (zgu ht).2
    ·exact scan_ok m _ _ x hx
 scan_le:∀(m d:Nat) (b a:Bs) (k:Nat),b.length=64*d->tkn k (zec m b a)<=k+d
  | 0,_,_,_,_,_=>Nat.le_add_right _ _
  | m+1,d,b,a,k,hb=>by
   rw[zec]
   split
   ·exact Nat.le_add_right _ _
   ·rename_i t ht
    have hl:=zgu ht;rw[tkn];have:=scan_le m (d - sn t) (b.drop (64*sn t)) (rmk a t) (k+sn t) (by rw[List.length_drop];omega);omega
abbrev up (n:Nat) (f:Nat->Bs) (l:List Wt):St:=⟨n,f,l,0,false⟩
theorem zw1 {n:Nat} {f:Nat->Bs} {l:List Wt} {k:Nat} (hk:k < n):rch (up n f l) (k:Int)=0:=by
 unfold rch;rw[if_neg (by simp),if_neg (by show ¬((k:Int) < 0\/(n:Int)<=(k:Int));omega)]
theorem zxz {n:Nat} {f:Nat->Bs} {l:List Wt} {k:Nat} (hk:k < n) {t:Bs} (ht:t.length=64):wrE (up n f l) (k:Int) t=0/\wrS (up n f l) (k:Int) t=up n f (l++[⟨k,t⟩]):=by
 have hr:=zw1 (f:=f) (l:=l) hk;constructor
 ·unfold wrE
  rw[if_neg (by rw[hr];decide),if_neg (by rw[ht];decide),if_neg (by show ¬(0:Nat)=1;decide)]
 ·unfold wrS
  rw[if_neg (by rw[hr];decide),if_neg (by rw[ht];decide),if_neg (by show ¬(0:Nat)=1;decide)];rfl
theorem zw2 (n:Nat) (f:Nat->Bs) (l:List Wt):syE (up n f l)=0/\syS (up n f l)=up n (lay f l) []:=⟨rfl,rfl⟩
theorem zfq:∀(l:List Wt) (f:Nat->Bs) (m:List Wt),lay f (l++m)=lay (lay f l) m
 | [],_,_=>rfl
 | x::l,f,m=>by rw[List.cons_append,lay,zfq l,lay]
def wts:Nat->List Bs->List Wt
 | _,[]=>[]
 | k,b::l=>⟨k,b⟩::wts (k+1) l
theorem zsR:∀(l:List Bs) (k:Nat),(wts k l).length=l.length
 | [],_=>rfl
 | _::l,k=>by rw[wts,List.length_cons,List.length_cons,zsR l]
theorem zfr:∀(l m:List Bs) (k:Nat),wts k (l++m)=wts k l++wts (k+l.length) m
 | [],_,_=>rfl
 | b::l,m,k=>by
  rw[List.cons_append,wts,zfr l m,wts,List.cons_append,List.length_cons,show k+1+l.length=k+(l.length+1) by omega]
theorem zu4:∀(l:List Bs) (k:Nat) (f:Nat->Bs) (j:Nat),lay f (wts k l) j=if h:k<=j/\j < k+l.length then l[j - k]'(by omega) else f j
 | [],k,f,j=>by
  rw[wts,lay,dif_neg (by simp only[List.length_nil];omega)]
 | b::l,k,f,j=>by
  rw[wts,lay,zu4 l (k+1) _ j];by_cases h:k+1<=j/\j < k+1+l.length
  ·rw[dif_pos h,dif_pos (by rw[List.length_cons];omega)]
   obtain⟨i,hi⟩:∃i,j - k=i+1:=⟨j - k - 1,by omega⟩;have e:j - (k+1)=i:=by omega
   simp[hi,e]
  ·rw[dif_neg h]
   by_cases h2:j=k
   ·subst h2
    rw[upd_same,dif_pos (by rw[List.length_cons];omega)];simp
   ·rw[upd_other _ _ h2,dif_neg (by rw[List.length_cons];omega)]
theorem zu5:∀(bs:List Bs) (n k:Nat) (f:Nat->Bs) (l:List Wt),k+bs.length<=n->(∀b∈bs,b.length=64)->wrs (up n f l) k bs=(0,up n f (l++wts k bs))
 | [],n,k,f,l,_,_=>by rw[wrs,wts,List.append_nil]
 | b::bs,n,k,f,l,h,hb=>by
  have hw:=zxz (n:=n) (f:=f) (l:=l) (k:=k) (by rw[List.length_cons] at h;omega) (hb b (List.mem_cons_self ..));rw[wrs,zaB hw.1,hw.2,zu5 bs n (k+1) f _ (by rw[List.length_cons] at h;omega) (fun x hx=>hb x (List.mem_cons_of_mem _ hx)),wts,List.append_assoc];rfl
theorem zsS {b:Bs} {m:Nat} (hb:b.length=64*m) {n k:Nat} (h:k+m<=n) (f:Nat->Bs) (l:List Wt):wrb (up n f l) k b=(0,up n f (l++wts k (chs m b))):=by
 have e:b.length / 64=m:=by omega
 rw[wrb,e];exact zu5 _ n k f l (by rw[zc7];exact h) (zqX m b hb)
def wip (k m:Nat) (f:Nat->Bs):Nat->Bs:=fun j=>if k<=j/\j < k+m then zr 64 else f j
theorem zpw (k:Nat) (f:Nat->Bs):wip k 0 f=f:=by
 funext j;unfold wip;rw[if_neg (by omega)]
theorem zsT:∀(m n k:Nat) (f:Nat->Bs) (l:List Wt) (d:Bool),k+m<=n->∃f' l',cls (up n f l) k m d=(0,up n f' l')/\lay f' l'=wip k m (lay f l)/\l'.length<=l.length+m
 | 0,n,k,f,l,d,_=>by
  rw[cls,zpw];cases d
  ·exact⟨f,l,by simp,rfl,Nat.le_refl _⟩
  ·exact⟨lay f l,[],by rw[if_pos rfl];rfl,rfl,Nat.zero_le _⟩
 | m+1,n,k,f,l,d,h=>by
  rw[cls];by_cases hz:St.sh (up n f l) k=zr 64
  ·rw[if_pos hz]
   obtain⟨f',l',h1,h2,h3⟩:=zsT m n (k+1) f l d (by omega);refine⟨f',l',h1,?_,by omega⟩;rw[h2];funext j;unfold wip;by_cases hj:j=k
   ·subst hj
    rw[if_neg (by omega),if_pos (by omega)];exact hz
   ·by_cases hj2:k+1<=j/\j < k+1+m
    ·rw[if_pos hj2,if_pos (by omega)]
    ·rw[if_neg hj2,if_neg (by omega)]
  ·rw[if_neg hz]
   have hw:=zxz (n:=n) (f:=f) (l:=l) (k:=k) (by omega) (zcN 64);rw[zaB hw.1,hw.2];obtain⟨f',l',h1,h2,h3⟩:=zsT m n (k+1) f (l++[⟨k,zr 64⟩]) true (by omega);refine⟨f',l',h1,?_,by rw[List.length_append] at h3;simp only[List.length_cons,List.length_nil] at h3;omega⟩;rw[h2,zfj];funext j;unfold wip;by_cases hj:j=k
   ·subst hj
    rw[if_neg (by omega),if_pos (by omega)];exact upd_same ..
   ·by_cases hj2:k+1<=j/\j < k+1+m
    ·rw[if_pos hj2,if_pos (by omega)]
    ·rw[if_neg hj2,if_neg (by omega)]
     exact upd_other _ _ hj
theorem zw3 {m n k:Nat} (f:Nat->Bs) (l:List Wt) (h:k+m<=n):∃f' l',cln (up n f l) k m=(0,up n f' l')/\lay f' l'=wip k m (lay f l)/\l'.length<=l.length+m:=by
 rw[cln,if_neg (by simp)];exact zsT m n k f l false h
def rcs:Bs->List Bs->Bs
 | _,[]=>[]
 | a,t::l=>rcd a t++rcs (rmk a t) l
theorem zhD:∀(l:List Bs) (a:Bs),(rcs a l).length=64*sns l
 | [],_=>rfl
 | t::l,a=>by
  rw[rcs,List.length_append,zbs,zhD l,sns];omega
theorem zb1:∀(l:List Bs) (k:Nat),tkn k l=k+sns l
 | [],_=>rfl
 | t::l,k=>by
  rw[tkn,zb1 l,sns];omega
theorem zfs:∀(m:Nat) (x y:Bs) (q:Nat),x.length=64*m->chs (m+q) (x++y)=chs m x++chs q y
 | 0,x,y,q,h=>by
  obtain rfl:x=[]:=List.length_eq_zero_iff.1 (by omega);rw[Nat.zero_add,List.nil_append,chs,List.nil_append]
 | m+1,x,y,q,h=>by
  rw[show m+1+q=(m+q)+1 by omega,chs,chs,List.take_append_of_le_length (by omega),List.drop_append_of_le_length (by omega),zfs m _ y q (by rw[List.length_drop];omega),List.cons_append]
theorem zu6:∀(ts:List Bs) (n k tk:Nat) (a:Bs) (f:Nat->Bs) (l:List Wt),k+tk+sns ts<=n->pts (up n f l) k tk a ts=(0,up n f (l++wts (k+tk) (chs (sns ts) (rcs a ts))))
 | [],n,k,tk,a,f,l,_=>by rw[pts,sns,chs,wts,List.append_nil]
 | t::ts,n,k,tk,a,f,l,h=>by
  rw[sns] at h;have hw:=zsS (zbs a t) (n:=n) (k:=k+tk) (by omega) f l;rw[pts,zaB (by rw[hw]),hw,zu6 ts n k (tk+sn t) (rmk a t) f _ (by omega),rcs,sns,zfs (sn t) _ _ (sns ts) (zbs a t),zfr,zc7,List.append_assoc,Nat.add_assoc]
def bgf (k H:Nat) (b:Bs) (f:Nat->Bs):Nat->Bs:=lay (wip k H f) (wts k (chs (b.length / 64) b))
theorem zgw {f:Nat->Bs} {i j:Nat} (a b:Bs) (h:i≠j):upd (upd f i a) j b=upd (upd f j b) i a:=by
 funext q;unfold upd;by_cases h1:q=j
 ·by_cases h2:q=i
  ·omega
  ·simp[h1,show j≠i by omega]
 ·simp[h1]
theorem zmq:∀(l:List Wt) (f:Nat->Bs) (k:Nat) (b:Bs),(∀x∈l,x.k≠k)->upd (lay f l) k b=lay (upd f k b) l
 | [],_,_,_,_=>rfl
 | x::l,f,k,b,h=>by
  rw[lay,lay,zmq l _ k b (fun y hy=>h y (List.mem_cons_of_mem _ hy)),zgw _ _ (h x (List.mem_cons_self ..))]
theorem zqY:∀(l:List Bs) (k:Nat),∀x∈wts k l,k<=x.k
 | [],_,_,h=>by cases h
 | b::l,k,x,h=>by
  rw[wts] at h;rcases List.mem_cons.1 h with rfl|h
  ·exact Nat.le_refl _
  ·exact Nat.le_trans (Nat.le_succ k) (zqY l (k+1) x h)
theorem zw4 {n k H g:Nat} {ts:List Bs} (f:Nat->Bs) (l:List Wt) (h:k+H<=n) (hs:1+sns ts<=H):bgn (up n f l) k H g ts=(0,up n (bgf k H (hd g++rcs (hm g) ts) (lay f l)) []):=by
 obtain⟨f1,l1,e1,e2,-⟩:=zw3 (n:=n) f l h;rw[bgn,zaB (by rw[e1]),e1];have e3:=zu6 ts n k 1 (hm g) f1 l1 (by omega);rw[zaB (by rw[e3]),e3];have e4:=zw2 n f1 (l1++wts (k+1) (chs (sns ts) (rcs (hm g) ts)));rw[zaB e4.1,e4.2];have e5:=zsS (b:=hd g) (m:=1) (by rw[zdh]) (n:=n) (k:=k) (by omega) (lay f1 (l1++wts (k+1) (chs (sns ts) (rcs (hm g) ts)))) [];rw[zaB (by rw[e5]),e5];have e6:=zw2 n (lay f1 (l1++wts (k+1) (chs (sns ts) (rcs (hm g) ts)))) ([]++wts k (chs 1 (hd g)));rw[e6.1,e6.2];congr 2;have hl:(hd g++rcs (hm g) ts).length / 64=1+sns ts:=by
  rw[List.length_append,zdh,zhD];omega
 rw[bgf,hl,zfs 1 _ _ _ (by rw[zdh]),zfr,zc7,List.nil_append,zfq l1,e2,zfq (wts k (chs 1 (hd g)))];have e7:chs 1 (hd g)=[hd g]:=by rw[chs,chs,List.take_of_length_le (by rw[zdh];omega)]
 rw[e7];show upd (lay (wip k H (lay f l)) (wts (k+1) _)) k (hd g)=lay (upd (wip k H (lay f l)) k (hd g)) _
 exact zmq _ _ _ _ (fun x hx=>by have:=zqY _ _ x hx;omega)
theorem zqZ (s:St) (k a b:Nat):hb s k (a+b)=hb s k a++hb s (k+a) b:=by
 induction b with
 | zero=>simp[hb]
 | succ b ih=>rw[show a+(b+1)=(a+b)+1 by omega,zdV,ih,zdV,List.append_assoc,Nat.add_assoc]
theorem zmr {s:St}:∀(m k:Nat),(∀i,i < m->s.sh (k+i)=zr 64)->hb s k m=zr (64*m)
 | 0,_,_=>rfl
 | m+1,k,h=>by
  rw[zdV,zmr m k (fun i hi=>h i (by omega)),h m (by omega)];unfold zr;rw[List.replicate_append_replicate,show 64*m+64=64*(m+1) by omega]
theorem zu7:∀m:Nat,nm (zr m)=0
 | 0=>rfl
 | m+1=>by
  have:=zu7 m;unfold nm zr at this ⊢;rw[List.replicate_succ,List.foldl_cons];exact this
theorem zu8 (m:Nat):gen (zr m)=0:=by
 have e:((zr m).drop 4).take 4=zr (min 4 (m - 4)):=by
  unfold zr;rw[List.drop_replicate,List.take_replicate]
 rw[gen,e,zu7]
 split <;> rfl
theorem zms:∀ts:List Bs,ts.length<=sns ts
 | []=>Nat.le_refl _
 | t::ts=>by
  have:=zmp t;have:=zms ts;rw[sns,List.length_cons];omega
theorem zmt {n:Nat} (f:Nat->Bs) (hf:∀j,f j=zr 64) (hH:2<=n / 2):opn (up n f [])=((0,up n (bgf 0 (n / 2) (hd 1++rcs (hm 1) []) f) []),⟨0,1,[]⟩):=by
 have hz:∀k m,hb (up n f []) k m=zr (64*m):=fun k m=>zmr m k (fun i _=>hf _)
 have hu:use (up n f [])=(0,0):=by
  unfold use;show (if gen (hb (up n f []) 0 (n / 2)) < gen (hb (up n f []) (n / 2) (n / 2)) then _ else _)=_
  rw[hz,hz,zu8,if_neg (by omega)]
 unfold opn;show (if n / 2 < 2 then _ else if false=true then _ else _)=_
 rw[if_neg (by omega),if_neg (by simp),hu,if_pos rfl];rw[zw4 (n:=n) (k:=0) (H:=n / 2) f [] (by omega) (by rw[sns];omega)];rfl
end Go.Proofs.Lg
namespace Go.Proofs.YtjcppbhgjchjaaaGreatDoor.Sto
open Go.RowKit Go.Proofs.Fd Go.Proofs.Dk Go.Proofs.Lg
structure Blk (w:World) (b:Nat) (cs:List Value):Prop where
 r:w.rangeAt b 0 cs
 f:∀o,w.frozen? ⟨b,o,none⟩=false
 n:cs≠[]
theorem Blk.c {w:World} {b:Nat} {cs:List Value} (h:Blk w b cs) (j:Nat) (v:Value) (hv:cs[j]?=some v):w.cell? ⟨b,j,none⟩=some v:=by
 have:=h.r j v hv;rw[Nat.zero_add] at this;exact this
theorem Blk.lt {w:World} {b:Nat} {cs:List Value} (h:Blk w b cs):b < w.heap.size:=by
 obtain⟨v,r,e⟩:=List.exists_cons_of_ne_nil h.n;exact World.block_lt_of_cell? _ _ (h.c 0 v (by rw[e];rfl))
theorem Blk.same {w w':World} {b:Nat} {cs:List Value} (h:Blk w b cs) (hs:w'.heap[b]?=w.heap[b]?):Blk w' b cs :=
 ⟨zbZ h.r hs,fun o=>(World.frozen?_of_block (a:=⟨b,o,none⟩) hs).trans (h.f o),h.n⟩
theorem Blk.below {w w':World} {b B:Nat} {cs:List Value} (h:Blk w b cs) (hb:Below B w w') (hl:b < B):Blk w' b cs:=h.same (hb.block b hl)
theorem Blk.later {w w':World} {b:Nat} {cs:List Value} (h:Blk w b cs) (hb:Bw w w'):Blk w' b cs:=h.same (hb.block b h.lt)
theorem Blk.bf {w w':World} {b:Nat} {cs:List Value} (h:Blk w b cs) {F:Nat->Prop} (hb:Bf F w w') (hF:¬F b):Blk w' b cs:=h.same (hb.block b h.lt hF)
theorem Blk.new (w:World) (cs:List Value) (ty:TypeId) (hn:cs≠[]):Blk (w.alloc (.cells cs.toArray ty)) w.heap.size cs :=
 ⟨fun j v hv=>by rw[Nat.zero_add,World.cell?_alloc_new];simpa using hv,fun o=>by simp[go_sem],hn⟩
theorem Blk.drew {w:World} {b:Nat} {cs:List Value} (h:Blk w b cs):Blk w.drew b cs:=⟨by simpa using h.r,h.f,h.n⟩
theorem zb2 (b:Nat):∀(vs:List Value) (o:Nat) (w:World) (x:Addr),(w.setCells b o vs).frozen? x=w.frozen? x
 | [],_,_,_=>rfl
 | v::vs,o,w,x=>by rw[World.setCells,zb2 b vs,World.frozen?_setCell]
theorem Blk.there {w:World} {b:Nat} {cs:List Value} (h:Blk w b cs):w.there b 0 cs.length:=fun j hj=>⟨h.r.isSome j hj,h.f _⟩
theorem Blk.put {w:World} {b:Nat} {cs:List Value} (h:Blk w b cs) (vs:List Value) (hl:vs.length=cs.length):Blk (w.setCells b 0 vs) b vs :=
 ⟨World.rangeAt_setCells_same w b 0 vs (by rw[hl];exact h.there),fun o=>(zb2 b vs 0 w _).trans (h.f o),fun e=>h.n (by rw[e] at hl;exact List.length_eq_zero_iff.1 hl.symm)⟩
theorem Blk.set {w:World} {b:Nat} {cs:List Value} (h:Blk w b cs) (i:Nat) (hi:i < cs.length) (v:Value):Blk (w.setCell ⟨b,i,none⟩ v) b (cs.set i v):=by
 refine⟨fun j u hu => ?_,fun o=>by rw[World.frozen?_setCell];exact h.f o,by simpa using h.n⟩;rw[Nat.zero_add];by_cases e:j=i
 ·subst e
  rw[List.getElem?_set_self hi] at hu;rw[World.cell?_setCell_same _ _ _ (by rw[h.c j _ (List.getElem?_eq_getElem hi)]),hu]
 ·rw[List.getElem?_set_ne (Ne.symm e)] at hu
  rw[World.cell?_setCell_other _ _ _ _ (fun q=>e (by injection q with q1 q2 q3;exact q2.symm)),h.c j u hu]
theorem zan {w:World} {B b:Nat} (hb:B<=b):∀(vs:List Value) (o:Nat) {w':World},Below B w w'->Below B w (w'.setCells b o vs)
 | [],_,_,h=>h
 | v::vs,o,_,h=>zan hb vs (o+1) (h.setCell (p:=⟨b,o,none⟩) hb v)
theorem res_c1 {F:Func} {k:Nat} {T:TypeId} (hF:F.results=#[.cell k T]) (tmps:Array Value) (w:World) (b:Nat) (x:Value) (h0:tmps.getD k undef = .pointer (some ⟨b,0,none⟩))
  (l1:(loadVar T ⟨b,0,none⟩).run Tryz.prog w = .ok x w):(results F tmps).run Tryz.prog w = .ok x w:=by
 unfold results;rw[hF];have h0':tmps[k]?.getD undef = .pointer (some ⟨b,0,none⟩):=by simpa using h0
 simp[h0',l1,asAddr]
theorem zbp {F:Func} {k j:Nat} {T:TypeId} (hF:F.results=#[.cell k T,.tmp j]) (tmps:Array Value) (w:World) (b:Nat) (x v:Value) (h0:tmps.getD k undef = .pointer (some ⟨b,0,none⟩)) (h1:tmps.getD j undef=v)
  (l1:(loadVar T ⟨b,0,none⟩).run Tryz.prog w = .ok x w):(results F tmps).run Tryz.prog w = .ok (.tuple #[x,v]) w:=by
 unfold results;rw[hF];have h0':tmps[k]?.getD undef = .pointer (some ⟨b,0,none⟩):=by simpa using h0
 have h1':tmps[j]?.getD undef=v:=by simpa using h1
 simp[h0',h1',l1,asAddr]
theorem zeC (n:Nat) (hn:n<=1000) (w:World):Cl 221 #[.int .i64 (n:Int)] w fun e w'=>e = .returned (sv (zr n))/\Bw w w':=by
 have RP:Hid (∀w,Cl 258 #[.string ⟨#[0]⟩,.int .i64 (n:Int)] w fun e w'=>e = .returned (sv (zr n))/\Bw w w'):=zsQ 0 n hn;clear hn;obtain⟨x,hx⟩:∃x:Int,(n:Int)=x:=⟨_,rfl⟩;rw[hx] at RP ⊢;clear hx;go_enter Tryz.func221, Tryz.ntmps221;go_wp2_with fail;refine Calls.mono (RP.out _) ?_;rintro e w1 ⟨rfl,hb⟩;have B1:Hid _:=hb;clear hb;go_wp2;go_ret;exact⟨rfl,B1.out⟩
theorem zsU (n:Nat):madeCells (Value.int .u8 0).cells n=Array.replicate n (.int .u8 0):=by
 apply Array.ext
 ·simp[madeCells]
 ·intro i h1 h2
  rw[Array.getElem_replicate];simp[madeCells,Value.cells,Nat.mod_one]
theorem zsV (n:Nat) (hn:n<=1000) (w:World):∃W:World,(Instr.makeSlice 99 (.int .i64 (n:Int)) (.int .i64 (n:Int))).run Tryz.prog w = .ok (.slice (some ⟨w.heap.size,0,none⟩) n n) W
  /\ BytesAt W w.heap.size (zr n)/\Bw w W:=by
 obtain⟨i0,hi,hz0,hz1,hz2⟩:=info_parts zu0;have h:=run_make (P:=Tryz.prog) w 99 5 i0 (.int .u8 0) Tryz.underlying99 hi hz0 .i64 .i64 (n:Int) (n:Int) (by omega) (Int.le_refl _) (by rw[hz2];omega) (by omega);rw[Int.toNat_natCast,hz1,Nat.mul_one,zsU] at h;refine⟨_,h,fun j hj => ?_,(Below.refl _ _).alloc (Nat.le_refl _) _⟩;have hj':j < n:=by rw[zcN] at hj;exact hj
 refine⟨?_,by simp[go_sem]⟩;rw[World.cell?_alloc_new,Array.getElem?_replicate,if_pos hj'];simp[zr]
theorem zpx (n m k:Nat) (hk:k < m):((ben n m).take k++zr (m - k)).set k (UInt8.ofNat (n / 2 ^ (8*(m - 1 - k))))=(ben n m).take (k+1)++zr (m - (k+1)):=by
 have hl:((ben n m).take k).length=k:=by rw[List.length_take,zaY];omega
 rw[List.set_append_right _ _ (by omega),hl,Nat.sub_self,List.take_succ_eq_append_getElem (by rw[zaY];exact hk),List.append_assoc];congr 1;obtain⟨d,hd⟩:∃d,m - k=d+1:=⟨m - k - 1,by omega⟩;rw[hd,show m - (k+1)=d by omega];simp[zr,List.replicate_succ,ben]
theorem zco (n m:Nat) (hm:m<=8) (w:World):Cl 334 #[.int .i64 (n:Int),.int .i64 (m:Int)] w fun e w'=>e = .returned (sv (ben n m))/\Below w.heap.size w w':=by
 obtain⟨W,MK,BM,BB⟩:=zsV m (by omega) w;have HB:Hid (Below w.heap.size w W):=BB;have HM:Hid (BytesAt W w.heap.size (zr m)):=BM;have hm0:(0:Int)<=(m:Int):=by omega
 clear BB BM;obtain⟨B,hB⟩:∃B,w.heap.size=B:=⟨_,rfl⟩;rw[hB] at MK HM HB ⊢;clear hB;go_enter Tryz.func334, Tryz.ntmps334;go_wp2;go_loopw [11] (fun i wr=>∃k:Nat,k<=m/\i = .int .i64 (k:Int)/\Hid (BytesAt wr B ((ben n m).take k++zr (m - k))/\Below B w wr)) (fun i _=>m - (intOf i).toNat)
 case atStart=>exact⟨0,Nat.zero_le _,rfl,HM.out,HB.out⟩
 case round =>
  obtain⟨k,hk,rfl,J⟩:=hrel;clear HB HM MK;by_cases hkm:k < m
  ·have g1:(k:Int) < (m:Int):=by omega
   have hlen:((ben n m).take k++zr (m - k)).length=m:=by
    rw[List.length_append,List.length_take,zaY,zcN];omega
   obtain⟨c0,f0⟩:=J.out.1 k (by rw[hlen];exact hkm);obtain⟨t,ht⟩:∃t,m - 1 - k=t:=⟨_,rfl⟩;have e0:(m:Int) - 1 - (k:Int)=(t:Int):=by omega
   have e6:IntKind.i64.wrap (8*(t:Int))=((8*t:Nat):Int):=by rw[IntKind.wrap_i64];omega
   have e7:((8*t:Nat):Int)<=64:=by omega
   have BV:(n:Int) / 2 ^ (8*t) % 256=((UInt8.ofNat (n / 2 ^ (8*t))).toNat:Int):=by rw[UInt8.toNat_ofNat'];simp
   have ST:=J.out.1.set k (UInt8.ofNat (n / 2 ^ (8*t))) _ rfl;rw[<-ht,zpx n m k hkm,ht] at ST;have HS:Hid _:=ST;have HC:Hid (Below B w (wr.setCell ⟨B,k,none⟩ (.int .u8 ((UInt8.ofNat (n / 2 ^ (8*t))).toNat:Int)))):=J.out.2.setCell (p:=⟨B,k,none⟩) (Nat.le_refl _) _;obtain⟨c,hc⟩:∃c,UInt8.ofNat (n / 2 ^ (8*t))=c:=⟨_,rfl⟩;rw[hc] at BV HS HC;obtain⟨v,hv⟩:∃v,Value.int .u8 (((ben n m).take k++zr (m - k))[k]'(by rw[hlen];exact hkm)).toNat=v:=⟨_,rfl⟩;rw[hv] at c0;clear ST hc hv hlen J;go_wp2;go_roundw
   case rel=>exact⟨k+1,by omega,rfl,HS.out,HC.out⟩
   case measure=>simp[intOf];omega
  ·obtain rfl:k=m:=by omega
   have J2:Hid (BytesAt wr B (ben n k)/\Below B w wr):=by
    have:=J.out;rw[List.take_of_length_le (by rw[zaY];exact Nat.le_refl _),Nat.sub_self] at this;have e:ben n k++zr 0=ben n k:=List.append_nil _;rw[e] at this;exact this
   have CV:=J2.out.1.string (cap:=k) (zaY n k);clear J;go_wp2;go_ret;exact⟨rfl,J2.out.2⟩
theorem zdW (x:Bs) (hx:x.length<=4096) (w:World):Cl 335 #[sv x] w fun e w'=>e = .returned (sv (pdd x))/\Bw w w':=by
 have hs:(st x).size=x.length:=zai x;obtain⟨z,hz⟩:∃z,(64 - x.length % 64) % 64=z:=⟨_,rfl⟩;have ZR:Hid (∀w,_):=zeC z (by omega);have HP:Hid (st x++st (zr z)=st (pdd x)):=by
  show st x++st (zr z)=st (pdd x);rw[zdT,pdd,hz]
 obtain⟨X,hX⟩:∃X,st x=X:=⟨_,rfl⟩;obtain⟨Y,hY⟩:∃Y,st (zr z)=Y:=⟨_,rfl⟩;have hy:Y.size=z:=by rw[<-hY,zai,zcN]
 have e1:(64 - (X.size:Int) % 64) % 64=(z:Int):=by rw[<-hX,hs];omega
 have hl:X.size<=4096:=by rw[<-hX,hs];exact hx
 have hz2:z < 64:=by omega
 unfold sv at ZR ⊢;rw[hX] at HP ⊢;rw[hY] at ZR HP;clear hX hY hs hz hx;go_enter Tryz.func335, Tryz.ntmps335;go_wp2_with fail;refine Calls.mono (ZR.out _) ?_;rintro e w1 ⟨rfl,hb⟩;have B1:Hid _:=hb;clear hb;go_wp2;go_ret;exact⟨by rw[<-HP.out];rfl,B1.out⟩
theorem zgx (a:Option Addr) (ks:List Ba) (n cap:Nat) (hn:Hid (ks.length=n)) (hn63:n < 9223372036854775807) (w:World) (hk:Hid (Kh w)) (hc:Hid (StrAt w a ks)) (hs:Hid (∀s∈ks,s.size < 9223372036854775807)) :
  Cl 333 #[.slice a n cap] w fun e w'=>e = .returned (sv (Lg.mk (ks.flatMap fun s=>s.data.toList)))/\Bw w w':=by
 have SH:Hid _:=zop 16 (by decide) (by decide) a ks n cap hn hn63 w hk hc hs;have e1:(shs ks).extract 0 16=st (Lg.mk (ks.flatMap fun s=>s.data.toList)):=by
  have:shs ks=st (Hs.sha (ks.flatMap fun s=>s.data.toList)):=rfl;rw[this,zdU,Lg.mk,List.drop_zero]
 rw[e1] at SH;clear e1 hc hs hk hn;obtain⟨X,hX⟩:∃X,st (Lg.mk (ks.flatMap fun s=>s.data.toList))=X:=⟨_,rfl⟩;unfold sv;rw[hX] at SH ⊢;clear hX hn63;go_enter Tryz.func333, Tryz.ntmps333;go_wp2_with fail;refine Calls.mono SH.out ?_;rintro e w1 ⟨rfl,hb⟩;have B1:Hid _:=hb;clear hb;go_wp2;go_ret;exact⟨rfl,B1.out⟩
theorem zeD (g:Nat) (w:World):Cl 338 #[.int .i64 (g:Int)] w fun e w'=>e = .returned (sv (hf g))/\Bw w w':=by
 have NB:Hid (∀w,Cl 334 #[.int .i64 (g:Int),.int .i64 4] w fun e w'=>e = .returned (sv (ben g 4))/\Bw w w'):=zco g 4 (by decide);have HP:Hid ((⟨#[76,79,71,0]⟩:Ba)++st (ben g 4)=st (hf g)):=zdT [76,79,71,0] (ben g 4);have hy:(st (ben g 4)).size=4:=by rw[zai,zaY]
 obtain⟨Y,hY⟩:∃Y,st (ben g 4)=Y:=⟨_,rfl⟩;unfold sv at NB ⊢;rw[hY] at NB HP hy;clear hY;go_enter Tryz.func338, Tryz.ntmps338;go_wp2_with fail;refine Calls.mono (NB.out _) ?_;rintro e w1 ⟨rfl,hb⟩;have B1:Hid _:=hb;clear hb;go_wp2;go_ret;exact⟨by rw[<-HP.out];rfl,B1.out⟩
theorem zmu (g:Nat) (w:World) (hk:Hid (Kh w)):Cl 337 #[.int .i64 (g:Int)] w fun e w'=>e = .returned (sv (hm g))/\Bw w w':=by
 have FR:Hid (∀w,_):=zeD g;have MK:Hid (∀(B:Nat) (w:World),Kh w->w.cell? ⟨B,0,none⟩=some (sv (hf g))->Cl 333 #[.slice (some ⟨B,0,none⟩) 1 1] w fun e w'=>e = .returned (sv (hm g))/\Bw w w'):=fun B w h h0=>by
  have:=zgx (some ⟨B,0,none⟩) [st (hf g)] 1 1 rfl (by decide) w h (zes h0) (fun s hs=>by rw[List.mem_singleton] at hs;subst hs;rw[zai,ziS];decide);have e:([st (hf g)].flatMap fun s=>s.data.toList)=hf g:=by simp[zfm]
  rw[e] at this;exact this
 obtain⟨Y,hY⟩:∃Y,st (hf g)=Y:=⟨_,rfl⟩;unfold sv at FR MK ⊢;rw[hY] at FR MK;clear hY;go_enter Tryz.func337, Tryz.ntmps337;go_wp2_with fail;refine Calls.mono (FR.out _) ?_;rintro e w1 ⟨rfl,hb⟩;have B1:Hid _:=hb;clear hb;go_wp2_with fail;refine Calls.mono (MK.out w1.heap.size _ ((hk.out.later B1.out).alloc _) (by simp[go_sem])) ?_;rintro e w2 ⟨rfl,hb⟩;have B2:Hid _:=chain (B1.out.alloc B1.out.size _) hb;clear hb;go_wp2;go_ret;exact⟨rfl,B2.out⟩
theorem zgy (g:Nat) (w:World) (hk:Hid (Kh w)):Cl 288 #[.int .i64 (g:Int)] w fun e w'=>e = .returned (sv (hd g))/\Bw w w':=by
 have FR:Hid (∀w,_):=zeD g;have HM:Hid (∀w,_):=zmu g;have PD:Hid (∀w,Cl 335 #[sv (hf g++hm g)] w fun e w'=>e = .returned (sv (hd g))/\Bw w w'):=zdW (hf g++hm g) (by rw[List.length_append,ziS,hm,zgt];decide);have h1:(st (hf g)).size=8:=by rw[zai,ziS]
 have h2:(st (hm g)).size=16:=by rw[zai,hm,zgt]
 have e3:st (hf g++hm g)=st (hf g)++st (hm g):=(zdT _ _).symm;unfold sv at *;rw[e3] at PD;clear e3;obtain⟨X,hX⟩:∃X,st (hf g)=X:=⟨_,rfl⟩;obtain⟨Y,hY⟩:∃Y,st (hm g)=Y:=⟨_,rfl⟩;rw[hX] at FR PD h1;rw[hY] at HM PD h2;clear hX hY;go_enter Tryz.func288, Tryz.ntmps288;go_wp2_with fail;refine Calls.mono (FR.out _) ?_;rintro e w1 ⟨rfl,hb⟩;have B1:Hid _:=hb;clear hb;go_wp2_with fail;refine Calls.mono (HM.out _ (hk.out.later B1.out)) ?_;rintro e w2 ⟨rfl,hb⟩;have B2:Hid _:=chain B1.out hb;clear hb;go_wp2_with fail;refine Calls.mono (PD.out _) ?_;rintro e w3 ⟨rfl,hb⟩;have B3:Hid _:=chain B2.out hb;clear hb;go_wp2;go_ret;exact⟨rfl,B3.out⟩
theorem zbt (x:Bs) (hx:x.length<=1000000) (w:World):Cl 204 #[sv x] w fun e w'=>e = .returned (.int .i64 (sn x:Int))/\w'=w:=by
 have hs:(st x).size=x.length:=zai x;have e1:(18+((st x).size:Int)+64 - 1) / 64=(sn x:Int):=by rw[hs];unfold sn;omega
 have hl:(st x).size<=1000000:=by omega
 obtain⟨X,hX⟩:∃X,st x=X:=⟨_,rfl⟩;unfold sv;rw[hX] at e1 hl ⊢;obtain⟨m,hm⟩:∃m,sn x=m:=⟨_,rfl⟩;rw[hm] at e1 ⊢;clear hX hs hx hm;go_enter Tryz.func204, Tryz.ntmps204;go_wp2;go_ret;exact⟨by rw[<-e1];rfl,rfl⟩
theorem zeE (s:Ba) (w:World):Cl 203 #[.string s] w fun e w'=>e = .returned (.int .i64 (may s.data.toList))/\w'=w:=by
 have hs:s.data.toList.length=s.size:=by simp
 unfold may;rw[hs];by_cases h1:s.size < 1
 ·rw[if_pos h1]
  have g1:(s.size:Int) < 1:=by omega
  go_enter Tryz.func203, Tryz.ntmps203;go_wp2;go_ret;exact⟨rfl,rfl⟩
 ·rw[if_neg h1]
  have g1:¬(s.size:Int) < 1:=by omega
  by_cases h2:2000 < s.size
  ·rw[if_pos h2]
   have g2:(2000:Int) < (s.size:Int):=by omega
   go_enter Tryz.func203, Tryz.ntmps203;go_wp2;go_ret;exact⟨rfl,rfl⟩
  ·rw[if_neg h2]
   have g2:¬(2000:Int) < (s.size:Int):=by omega
   go_enter Tryz.func203, Tryz.ntmps203;go_wp2;go_ret;exact⟨rfl,rfl⟩
abbrev rv (m t:Bs):Value := .agg #[sv m,sv t]
theorem strAt3 {w:World} {B:Nat} {x y z:Ba} (h0:w.cell? ⟨B,0,none⟩=some (.string x)) (h1:w.cell? ⟨B,1,none⟩=some (.string y)) (h2:w.cell? ⟨B,2,none⟩=some (.string z)):StrAt w (some ⟨B,0,none⟩) [x,y,z]:=fun i hi=>by
 refine⟨B,0,rfl,?_⟩;rcases (by simp at hi;omega:i=0\/i=1\/i=2) with rfl|rfl|rfl
 ·exact h0
 ·exact h1
 ·exact h2
theorem zgz (a t:Bs) (ha:a.length=16) (ht:t.length<=2000) (w:World) (hk:Hid (Kh w)):Cl 279 #[sv a,sv t] w fun e w'=>e = .returned (rv (rmk a t) t)/\Bw w w':=by
 have NB:Hid (∀w,Cl 334 #[.int .i64 ((st t).size:Int),.int .i64 2] w fun e w'=>e = .returned (sv (ben t.length 2))/\Bw w w'):=by
  rw[zai];exact zco t.length 2 (by decide)
 have MK:Hid (∀(B:Nat) (w:World),Kh w->w.cell? ⟨B,0,none⟩=some (sv a)->w.cell? ⟨B,1,none⟩=some (sv (ben t.length 2))->w.cell? ⟨B,2,none⟩=some (sv t)->Cl 333 #[.slice (some ⟨B,0,none⟩) 3 3] w fun e w'=>e = .returned (sv (rmk a t))/\Bw w w'):=fun B w h h0 h1 h2=>by
  have:=zgx (some ⟨B,0,none⟩) [st a,st (ben t.length 2),st t] 3 3 rfl (by decide) w h (strAt3 h0 h1 h2) (fun s hs=>by
   simp only[List.mem_cons,List.not_mem_nil,or_false] at hs;rcases hs with rfl|rfl|rfl
   ·rw[zai,ha];decide
   ·rw[zai,zaY];decide
   ·rw[zai];omega)
  have e:([st a,st (ben t.length 2),st t].flatMap fun s=>s.data.toList)=a++ben t.length 2++t:=by simp[zfm]
  rw[e] at this;exact this
 obtain⟨Y,hY⟩:∃Y,st (ben t.length 2)=Y:=⟨_,rfl⟩;obtain⟨A,hA⟩:∃A,st a=A:=⟨_,rfl⟩;obtain⟨T,hT⟩:∃T,st t=T:=⟨_,rfl⟩;obtain⟨R,hR⟩:∃R,st (rmk a t)=R:=⟨_,rfl⟩;unfold rv;unfold sv at *;rw[hY] at NB MK;rw[hA] at MK ⊢;rw[hT] at NB MK ⊢;rw[hR] at MK ⊢;have hTs:T.size<=2000:=by rw[<-hT,zai];exact ht
 clear hY hA hT hR ha ht;have BK0:Blk (w.alloc (.cells #[.string ⟨#[]⟩,.string ⟨#[]⟩] 337)) w.heap.size [.string ⟨#[]⟩,.string ⟨#[]⟩]:=Blk.new w _ _ (by simp);have B0:Bw w (w.alloc (.cells #[.string ⟨#[]⟩,.string ⟨#[]⟩] 337)):=(Below.refl _ _).alloc (Nat.le_refl _) _;have I0:Hid (_/\_):=And.intro BK0 B0;clear BK0 B0;go_enter Tryz.func279, Tryz.ntmps279;go_wp2_with fail;refine Calls.mono (NB.out _) ?_;rintro e w1 ⟨rfl,hb⟩;have I1:Hid (_/\_):=And.intro (I0.out.1.later hb) (chain I0.out.2 hb);clear hb I0;go_wp2_with fail;refine Calls.mono (MK.out w1.heap.size _ ((hk.out.later I1.out.2).alloc _) (by simp[go_sem]) (by simp[go_sem]) (by simp[go_sem])) ?_;rintro e w2 ⟨rfl,hb⟩;have hb':=((Below.refl _ w1).alloc (Nat.le_refl _) _).trans (hb.mono (by simp));have I2:Hid (_/\_):=And.intro (I1.out.1.later hb') (chain I1.out.2 hb');clear hb hb' I1;have k0:=I2.out.1.c 0 _ rfl;have k1:=I2.out.1.c 1 _ rfl;have k2:=I2.out.1.f;have FI:Hid (_/\_):=And.intro (I2.out.1.put [.string R,.string T] rfl) (zan (Nat.le_refl _) [.string R,.string T] 0 I2.out.2);clear I2;go_wp2;refine bodyPost_ret (v := .agg #[.string R,.string T]) ?_ rfl ⟨rfl,FI.out.2⟩;exact res_c1 Tryz.results279 _ _ w.heap.size _ (by kernel_rfl) (run_loadVar_mid _ w.heap.size 0 337 [.string R,.string T] _ FI.out.1.r Tryz.underlying337 rfl (by kernel_rfl))
theorem keep2 {w0:World} {B:Nat} {x y:Value} {wa wb:World} (hb:Bw wa wb) (h:wa.cell? ⟨B,0,none⟩=some x/\wa.cell? ⟨B,1,none⟩=some y/\Bw w0 wa) :
  wb.cell? ⟨B,0,none⟩=some x/\wb.cell? ⟨B,1,none⟩=some y/\Bw w0 wb:=⟨cell_later hb h.1,cell_later hb h.2.1,chain h.2.2 hb⟩
theorem chd {w W wz:World} (h1:Bw w W) (hb:Below W.drew.heap.size W.drew wz):Bw w wz:=chain (chain h1 (Below.refl _ _).drew) hb
theorem zdi (m t:Bs) (hm:m.length=16) (ht:t.length<=2000) (w:World):Cl 280 #[rv m t] w fun e w'=>e = .returned (sv (pdd (ben t.length 2++m++t)))/\Bw w w':=by
 have NB:Hid (∀w,Cl 334 #[.int .i64 ((st t).size:Int),.int .i64 2] w fun e w'=>e = .returned (sv (ben t.length 2))/\Bw w w'):=by
  rw[zai];exact zco t.length 2 (by decide)
 have PD:Hid (∀w,Cl 335 #[sv (ben t.length 2++m++t)] w fun e w'=>e = .returned (sv (pdd (ben t.length 2++m++t)))/\Bw w w'):=zdW _ (by rw[List.length_append,List.length_append,zaY,hm];omega);have e3:st (ben t.length 2++m++t)=st (ben t.length 2)++st m++st t:=by rw[<-zdT,<-zdT]
 obtain⟨R,hR⟩:∃R,st (pdd (ben t.length 2++m++t))=R:=⟨_,rfl⟩;unfold rv;unfold sv at *;rw[hR] at PD ⊢;rw[e3] at PD;have hY2:(st (ben t.length 2)).size=2:=by rw[zai,zaY]
 have hM2:(st m).size=16:=by rw[zai,hm]
 have hT2:(st t).size<=2000:=by rw[zai];exact ht
 obtain⟨Y,hY⟩:∃Y,st (ben t.length 2)=Y:=⟨_,rfl⟩;obtain⟨M,hM⟩:∃M,st m=M:=⟨_,rfl⟩;obtain⟨T,hT⟩:∃T,st t=T:=⟨_,rfl⟩;rw[hY] at NB PD hY2;rw[hM] at PD hM2 ⊢;rw[hT] at NB PD hT2 ⊢;have hT3:¬9223372036854775807 < 18+T.size:=by omega
 clear hY hM hT hR e3 hm ht;have B0:Hid (Bw w (w.alloc (.cells #[.string M,.string T] 337))):=(Below.refl _ _).alloc (Nat.le_refl _) _;obtain⟨w0,hw0⟩:∃w0,w.alloc (.cells #[.string M,.string T] 337)=w0:=⟨_,rfl⟩;have c0:w0.cell? ⟨w.heap.size,0,none⟩=some (.string M):=by rw[<-hw0,World.cell?_alloc_new];rfl
 have c1:w0.cell? ⟨w.heap.size,1,none⟩=some (.string T):=by rw[<-hw0,World.cell?_alloc_new];rfl
 rw[hw0] at B0;go_enter Tryz.func280, Tryz.ntmps280;go_wp2_with fail;go_region_held3 (fun w'=>w'.cell? ⟨w.heap.size,0,none⟩=some (.string M)/\w'.cell? ⟨w.heap.size,1,none⟩=some (.string T)/\Below w0.heap.size w0 w') (first|exact⟨c0,c1,(Below.refl _ _).drew⟩|assumption|exact keep2 (by assumption) (by assumption)) (first|(go_at_call 334;refine Calls.mono (NB.out _) ?_;rintro e w1 ⟨rfl,hb1⟩)|(go_at_call 335;refine Calls.mono (PD.out _) ?_;rintro e w2 ⟨rfl,hb2⟩));have FF:Hid (Bw w w2):=chain (chd B0.out hb1) hb2;go_wp2;go_ret;exact⟨rfl,FF.out⟩
theorem zdX (s p:Ba) (w:World):Cl 311 #[.string s,.string p] w fun e w'=>e = .returned (.bool (p.data.toList.isPrefixOf s.data.toList))/\w'=w:=Any.strings_HasPrefix (ρ:=repAt) { repLies with } s p w
theorem zq0 (l:Bs) (b:UInt8):nm (l++[b])=nm l*256+b.toNat:=by rw[nm,List.foldl_append];rfl
theorem zmv:∀(l:Bs) (n m:Nat),n < 256 ^ m->l.foldl (fun n b=>n*256+b.toNat) n < 256 ^ (m+l.length)
 | [],_,_,h=>h
 | b::l,n,m,h=>by
  have hb:=b.toNat_lt;rw[List.foldl_cons,List.length_cons,show m+(l.length+1)=(m+1)+l.length by omega];refine zmv l _ (m+1) ?_;rw[Nat.pow_succ];omega
theorem zu9 (l:Bs):nm l < 256 ^ l.length:=by
 have:=zmv l 0 0 (by decide);rw[Nat.zero_add] at this;exact this
theorem ziT (n:Nat) (b:UInt8) (hn:n < 16777216):bits .or .i64 ((n:Int)*256) (b.toNat:Int)=((n*256+b.toNat:Nat):Int):=by
 have h3:=b.toNat_lt;rw[show (n:Int)*256=((n*256:Nat):Int) by omega,(bits_nat .i64 32 (by decide) (fun n _ _=>by rw[IntKind.wrap_i64];omega) (n*256) b.toNat (by omega) (by omega)).2];have:=Nat.shiftLeft_add_eq_or_of_lt (show b.toNat < 2 ^ 8 from h3) n;rw[Nat.shiftLeft_eq] at this;rw[show n*256=n*2 ^ 8 by omega,<-this]
theorem zpy (b:Bs) (h1:8<=b.length) (w:World) (hk:Hid (Kh w)):Cl 285 #[sv b] w fun e w'=>e = .returned (.int .i64 (gen b:Int))/\Bw w w':=by
 have HD:Hid (∀(g:Nat) (w:World),Kh w->Cl 288 #[.int .i64 (g:Int)] w fun e w'=>e = .returned (sv (hd g))/\Bw w w'):=fun g w h=>zgy g w h
 have hs:(st b).size=b.length:=zai b;obtain⟨X,hX⟩:∃X,st b=X:=⟨_,rfl⟩;unfold sv;rw[hX] at hs ⊢;have HX:Hid (st b=X):=hX;clear hX;go_enter Tryz.func285, Tryz.ntmps285;go_wp2;go_loopw [3,5] (fun x i wr=>∃k:Nat,k<=4/\i = .int .i64 (k:Int)/\x = .int .i64 (nm ((b.drop 4).take k):Int)/\wr=w) (fun _ i _=>4 - (intOf i).toNat)
 case atStart=>exact⟨0,Nat.zero_le _,rfl,rfl,rfl⟩
 case round =>
  obtain⟨k,hk4,rfl,rfl,rfl⟩:=hrel;by_cases hk5:k < 4
  ·have g1:(k:Int) < 4:=by omega
   have l0:4+k < X.size:=by omega
   have l1:(4:Int)+(k:Int) < (X.size:Int):=by omega
   have l2:(0:Int)<=4+(k:Int):=by omega
   have hlt:=zu9 ((b.drop 4).take k);have hpw:256 ^ ((b.drop 4).take k).length<=16777216:=by
    have:((b.drop 4).take k).length<=3:=by rw[List.length_take];omega
    exact Nat.le_trans (Nat.pow_le_pow_right (by decide) this) (by decide)
   obtain⟨c,hc⟩:∃c,X[4+k]=c:=⟨_,rfl⟩;have hc2:b[4+k]'(by omega)=c:=by
    have:=HX.out;subst this;rw[<-hc];rfl
   have hst:nm ((b.drop 4).take (k+1))=nm ((b.drop 4).take k)*256+c.toNat:=by
    rw[List.take_succ_eq_append_getElem (by rw[List.length_drop];omega),zq0,List.getElem_drop,hc2]
   obtain⟨n,hn⟩:∃n,nm ((b.drop 4).take k)=n:=⟨_,rfl⟩;rw[hn] at hst hlt ⊢;have hcl:=c.toNat_lt;have t1:IntKind.i64.wrap (c.toNat:Int)=(c.toNat:Int):=by rw[IntKind.wrap_i64];omega
   have t2:IntKind.i64.wrap ((n:Int)*256)=(n:Int)*256:=by rw[IntKind.wrap_i64];omega
   have OW:=ziT n c (by omega);have HST:Hid (nm ((b.drop 4).take (k+1))=n*256+c.toNat):=hst;clear hst hn hc2 hlt hpw hcl;go_wp2;go_roundw
   case rel=>exact⟨k+1,by omega,rfl,by rw[HST.out];simp,by first|rfl|trivial⟩
   case measure=>simp[intOf];omega
  ·obtain rfl:k=4:=by omega
   have g0:Hid (gen b=if nm ((b.drop 4).take 4)<=2147483647/\(hd (nm ((b.drop 4).take 4))).isPrefixOf b=true then nm ((b.drop 4).take 4) else 0):=rfl;obtain⟨n,hn⟩:∃n,nm ((b.drop 4).take 4)=n:=⟨_,rfl⟩;rw[hn] at g0 ⊢;clear hn;by_cases hbig:2147483647 < n
   ·have gb:2147483647 < (n:Int):=by omega
    have E0:Hid (gen b=0):=by
     have:=g0.out;rw[if_neg (fun c=>by have:=c.1;omega)] at this;exact this
    obtain⟨z,hz⟩:∃z:Int,(n:Int)=z:=⟨_,rfl⟩;rw[hz] at gb ⊢;clear hz g0 hbig HD;go_wp2;go_ret;exact⟨by rw[E0.out];rfl,Below.refl _ _⟩
   have gb:¬2147483647 < (n:Int):=by omega
   have hle:Hid (n<=2147483647):=Nat.le_of_not_lt hbig;clear hbig;have PF:Hid (∀w,Cl 311 #[.string X,sv (hd n)] w fun e w'=>e = .returned (.bool ((hd n).isPrefixOf b))/\w'=w):=fun w=>by
    have:=HX.out;subst this;exact zdX (st b) (st (hd n)) w
   obtain⟨Y,hY⟩:∃Y,st (hd n)=Y:=⟨_,rfl⟩;unfold sv at HD PF;have HD2:Hid (Cl 288 #[.int .i64 (n:Int)] wr fun e w'=>e = .returned (.string (st (hd n)))/\Bw wr w'):=HD.out n wr hk.out;rw[hY] at PF HD2;clear hY HD;cases hp:(hd n).isPrefixOf b
   ·rw[hp] at PF g0
    go_wp2_with fail;refine Calls.mono HD2.out ?_;rintro e w1 ⟨rfl,hb⟩;have B1:Hid _:=hb;clear hb;go_wp2_with fail;refine Calls.mono (PF.out _) ?_;rintro e w2 ⟨rfl,rfl⟩;go_wp2;go_ret;exact⟨by rw[g0.out,if_neg (fun c=>by simp at c)];rfl,B1.out⟩
   ·rw[hp] at PF g0
    go_wp2_with fail;refine Calls.mono HD2.out ?_;rintro e w1 ⟨rfl,hb⟩;have B1:Hid _:=hb;clear hb;go_wp2_with fail;refine Calls.mono (PF.out _) ?_;rintro e w2 ⟨rfl,rfl⟩;go_wp2;go_ret;exact⟨by rw[g0.out,if_pos (by first|exact⟨hle.out,rfl⟩|exact⟨hle.out,trivial⟩)];rfl,B1.out⟩
def zsW (b a:Bs):Value:=match rof b a with
 | none => .tuple #[rv [] [],.bool false]
 | some t => .tuple #[rv (rmk a t) t,.bool true]
theorem zhE (w:World):Hid (Blk (w.alloc (.cells #[.string ⟨#[]⟩,.string ⟨#[]⟩] 337)) w.heap.size [.string ⟨#[]⟩,.string ⟨#[]⟩]/\Bw w (w.alloc (.cells #[.string ⟨#[]⟩,.string ⟨#[]⟩] 337))):=⟨Blk.new w _ _ (by simp),(Below.refl _ _).alloc (Nat.le_refl _) _⟩
theorem zgA (X A:Ba) (w:World) (h:X.size < 64):Cl 287 #[.string X,.string A] w fun e w'=>e = .returned (.tuple #[rv [] [],.bool false])/\Bw w w':=by
 have g1:(X.size:Int) < 64:=by omega
 have I0:=zhE w;clear h;go_enter Tryz.func287, Tryz.ntmps287;go_wp2;refine bodyPost_ret (v := .tuple #[.agg #[.string ⟨#[]⟩,.string ⟨#[]⟩],.bool false]) ?_ rfl ⟨rfl,I0.out.2⟩;exact zbp Tryz.results287 _ _ w.heap.size _ _ (by kernel_rfl) (by kernel_rfl) (run_loadVar_mid _ w.heap.size 0 337 [.string ⟨#[]⟩,.string ⟨#[]⟩] _ I0.out.1.r Tryz.underlying337 rfl (by kernel_rfl))
theorem zft (X A:Ba) (w:World) (h:¬X.size < 64) (c0 c1:UInt8) (l0:0 < X.size) (l1:1 < X.size) (hc0:X[0]=c0) (hc1:X[1]=c1) (n:Nat) (hn:c0.toNat*256+c1.toNat=n) (hb:n < 1\/2000 < n\/X.size < 18+n):Cl 287 #[.string X,.string A] w fun e w'=>e = .returned (.tuple #[rv [] [],.bool false])/\Bw w w':=by
 have g1:¬(X.size:Int) < 64:=by omega
 have z0:(0:Int) < (X.size:Int):=by omega
 have z1:(1:Int) < (X.size:Int):=by omega
 have q0:=c0.toNat_lt;have q1:=c1.toNat_lt;have t0:IntKind.i64.wrap (c0.toNat:Int)=(c0.toNat:Int):=by rw[IntKind.wrap_i64];omega
 have t1:IntKind.i64.wrap (c1.toNat:Int)=(c1.toNat:Int):=by rw[IntKind.wrap_i64];omega
 have t2:IntKind.i64.wrap ((c0.toNat:Int)*256)=(c0.toNat:Int)*256:=by rw[IntKind.wrap_i64];omega
 have OW:bits .or .i64 ((c0.toNat:Int)*256) (c1.toNat:Int)=(n:Int):=by rw[<-hn];exact ziT c0.toNat c1 (by omega)
 have hn2:n < 65536:=by omega
 have I0:=zhE w;clear q0 q1 hn;by_cases h1:n < 1
 ·have g2:(n:Int) < 1:=by omega
  clear hb;go_enter Tryz.func287, Tryz.ntmps287;go_wp2_with fail;go_region_with fail
  all_goals go_wp2
  all_goals (refine bodyPost_ret (v := .tuple #[.agg #[.string ⟨#[]⟩,.string ⟨#[]⟩],.bool false]) ?_ rfl ⟨rfl,I0.out.2.drew⟩)
  all_goals (exact zbp Tryz.results287 _ _ w.heap.size _ _ (by kernel_rfl) (by kernel_rfl) (run_loadVar_mid _ w.heap.size 0 337 [.string ⟨#[]⟩,.string ⟨#[]⟩] _ I0.out.1.drew.r Tryz.underlying337 rfl (by kernel_rfl)))
 ·have g2:¬(n:Int) < 1:=by omega
  by_cases h2:2000 < n
  ·have g3:(2000:Int) < (n:Int):=by omega
   clear hb;go_enter Tryz.func287, Tryz.ntmps287;go_wp2_with fail;go_region_with fail
   all_goals go_wp2
   all_goals (refine bodyPost_ret (v := .tuple #[.agg #[.string ⟨#[]⟩,.string ⟨#[]⟩],.bool false]) ?_ rfl ⟨rfl,I0.out.2.drew⟩)
   all_goals (exact zbp Tryz.results287 _ _ w.heap.size _ _ (by kernel_rfl) (by kernel_rfl) (run_loadVar_mid _ w.heap.size 0 337 [.string ⟨#[]⟩,.string ⟨#[]⟩] _ I0.out.1.drew.r Tryz.underlying337 rfl (by kernel_rfl)))
  ·have g3:¬(2000:Int) < (n:Int):=by omega
   have g4:(X.size:Int) < 18+(n:Int):=by omega
   clear hb;go_enter Tryz.func287, Tryz.ntmps287;go_wp2_with fail;go_region_with fail
   all_goals go_wp2
   all_goals (refine bodyPost_ret (v := .tuple #[.agg #[.string ⟨#[]⟩,.string ⟨#[]⟩],.bool false]) ?_ rfl ⟨rfl,I0.out.2.drew⟩)
   all_goals (exact zbp Tryz.results287 _ _ w.heap.size _ _ (by kernel_rfl) (by kernel_rfl) (run_loadVar_mid _ w.heap.size 0 337 [.string ⟨#[]⟩,.string ⟨#[]⟩] _ I0.out.1.drew.r Tryz.underlying337 rfl (by kernel_rfl)))
theorem zgB (X A T M R:Ba) (w:World) (hk:Hid (Kh w)) (h:¬X.size < 64) (c0 c1:UInt8) (l0:0 < X.size) (l1:1 < X.size) (hc0:X[0]=c0) (hc1:X[1]=c1) (n:Nat) (hn:c0.toNat*256+c1.toNat=n) (h1:1<=n) (h2:n<=2000) (h3:18+n<=X.size) (hT:X.extract 18 (18+n)=T)
  (NX:Hid (∀w,Kh w->Cl 279 #[.string A,.string T] w fun e w'=>e = .returned (.agg #[.string M,.string T])/\Bw w w'))
  (SC:Hid (∀w,Cl 280 #[.agg #[.string M,.string T]] w fun e w'=>e = .returned (.string R)/\Bw w w'))
  (v:Bool) (PF:Hid (∀w,Cl 311 #[.string X,.string R] w fun e w'=>e = .returned (.bool v)/\w'=w)) :
  Cl 287 #[.string X,.string A] w fun e w'=>e = .returned (if v=true then .tuple #[.agg #[.string M,.string T],.bool true] else .tuple #[.agg #[.string ⟨#[]⟩,.string ⟨#[]⟩],.bool false])/\Bw w w':=by
 have g1:¬(X.size:Int) < 64:=by omega
 have z0:(0:Int) < (X.size:Int):=by omega
 have z1:(1:Int) < (X.size:Int):=by omega
 have q0:=c0.toNat_lt;have q1:=c1.toNat_lt;have t0:IntKind.i64.wrap (c0.toNat:Int)=(c0.toNat:Int):=by rw[IntKind.wrap_i64];omega
 have t1:IntKind.i64.wrap (c1.toNat:Int)=(c1.toNat:Int):=by rw[IntKind.wrap_i64];omega
 have t2:IntKind.i64.wrap ((c0.toNat:Int)*256)=(c0.toNat:Int)*256:=by rw[IntKind.wrap_i64];omega
 have OW:bits .or .i64 ((c0.toNat:Int)*256) (c1.toNat:Int)=(n:Int):=by rw[<-hn];exact ziT c0.toNat c1 (by omega)
 have hn2:n < 65536:=by omega
 have g2:¬(n:Int) < 1:=by omega
 have g3:¬(2000:Int) < (n:Int):=by omega
 have g4:¬(X.size:Int) < 18+(n:Int):=by omega
 have g5:(18:Int)<=18+(n:Int):=by omega
 have g6:18+(n:Int)<=(X.size:Int):=by omega
 have I0:=zhE w;have B0:=I0.out.2.drew;have K0:Hid (Kh (w.alloc (.cells #[.string ⟨#[]⟩,.string ⟨#[]⟩] 337)).drew):=hk.out.later B0;have I1:Hid (_/\_):=And.intro I0.out.1.drew B0;clear q0 q1 hn h1 h2 h3 I0 B0;go_enter Tryz.func287, Tryz.ntmps287;go_wp2_with fail;go_region_with fail
 all_goals go_wp2_with fail
 all_goals
  refine Calls.mono (NX.out _ K0.out) ?_;rintro e w1 ⟨rfl,hb⟩;have I2:Hid (_/\_):=And.intro (I1.out.1.later hb) (chain I1.out.2 hb);clear hb K0 I1;have J2:Hid (_/\_/\_):=⟨I2.out.1.later ((Below.refl _ w1).alloc (Nat.le_refl _) (.cells #[.string M,.string T] 337)),Blk.new w1 [.string M,.string T] 337 (by simp),chain I2.out.2 ((Below.refl _ w1).alloc (Nat.le_refl _) (.cells #[.string M,.string T] 337))⟩;clear I2;go_wp2_with fail;refine Calls.mono (SC.out _) ?_;rintro e w2 ⟨rfl,hb⟩;have I3:Hid (_/\_/\_):=⟨J2.out.1.later hb,J2.out.2.1.later hb,chain J2.out.2.2 hb⟩;clear hb J2;have k0:=I3.out.1.c 0 _ rfl;have k1:=I3.out.1.c 1 _ rfl;have k2:=I3.out.1.f;have r0:=I3.out.2.1.c 0 _ rfl;have r1:=I3.out.2.1.c 1 _ rfl;go_wp2_with fail;refine Calls.mono (PF.out _) ?_;rintro e w3 ⟨rfl,rfl⟩;cases v
  ·have FI:Hid (_/\_):=And.intro (I3.out.1.put [.string ⟨#[]⟩,.string ⟨#[]⟩] rfl) (zan (Nat.le_refl _) [.string ⟨#[]⟩,.string ⟨#[]⟩] 0 I3.out.2.2)
   clear I3;go_wp2;refine bodyPost_ret (v := .tuple #[.agg #[.string ⟨#[]⟩,.string ⟨#[]⟩],.bool false]) ?_ rfl ⟨by simp,FI.out.2⟩;exact zbp Tryz.results287 _ _ w.heap.size _ _ (by kernel_rfl) (by kernel_rfl) (run_loadVar_mid _ w.heap.size 0 337 [.string ⟨#[]⟩,.string ⟨#[]⟩] _ FI.out.1.r Tryz.underlying337 rfl (by kernel_rfl))
  ·have FI:Hid (_/\_):=And.intro (I3.out.1.put [.string M,.string T] rfl) (zan (Nat.le_refl _) [.string M,.string T] 0 I3.out.2.2)
   clear I3;go_wp2;refine bodyPost_ret (v := .tuple #[.agg #[.string M,.string T],.bool true]) ?_ rfl ⟨by simp,FI.out.2⟩;exact zbp Tryz.results287 _ _ w.heap.size _ _ (by kernel_rfl) (by kernel_rfl) (run_loadVar_mid _ w.heap.size 0 337 [.string M,.string T] _ FI.out.1.r Tryz.underlying337 rfl (by kernel_rfl))
theorem zfu (b a:Bs) (ha:a.length=16) (w:World) (hk:Hid (Kh w)):Cl 287 #[sv b,sv a] w fun e w'=>e = .returned (zsW b a)/\Bw w w':=by
 have hs:(st b).size=b.length:=zai b;unfold zsW rof;by_cases h:b.length < 64
 ·rw[if_pos h]
  exact zgA (st b) (st a) w (by omega)
 ·rw[if_neg h]
  obtain⟨c0,c1,r,rfl⟩:∃c0 c1 r,b=c0::c1::r:=by
   match b,h with
   | c0::c1::r,_=>exact⟨c0,c1,r,rfl⟩
   | [_],h=>simp at h
   | [],h=>simp at h
  have en:nm ((c0::c1::r).take 2)=c0.toNat*256+c1.toNat:=by simp[nm]
  rw[en];obtain⟨n,hn⟩:∃n,c0.toNat*256+c1.toNat=n:=⟨_,rfl⟩;rw[hn];by_cases hb:n < 1\/2000 < n\/(c0::c1::r).length < 18+n
  ·rw[if_pos hb]
   exact zft (st (c0::c1::r)) (st a) w (by omega) c0 c1 (by omega) (by omega) rfl rfl n hn (by rw[hs];exact hb)
  ·rw[if_neg hb]
   obtain⟨t,ht⟩:∃t,((c0::c1::r).drop 18).take n=t:=⟨_,rfl⟩;rw[ht];have hl:t.length<=2000:=by rw[<-ht,List.length_take];omega
   have eT:(st (c0::c1::r)).extract 18 (18+n)=st t:=by
    rw[zdU,<-ht,List.drop_take,show 18+n - 18=n by omega]
   have:=zgB (st (c0::c1::r)) (st a) (st t) (st (rmk a t)) (st (rcd a t)) w hk (by omega) c0 c1 (by omega) (by omega) rfl rfl n hn (by omega) (by omega) (by omega) eT
    (fun w h=>zgz a t ha hl w h) (fun w=>zdi (rmk a t) t rfl hl w) _ (fun w=>zdX _ _ w)
   refine this.mono fun e w' ⟨he,hb⟩=>⟨?_,hb⟩
   rw[he];have e2:(st (rcd a t)).data.toList.isPrefixOf (st (c0::c1::r)).data.toList=(rcd a t).isPrefixOf (c0::c1::r):=rfl;rw[e2]
   split <;> rfl
end Go.Proofs.YtjcppbhgjchjaaaGreatDoor.Sto
