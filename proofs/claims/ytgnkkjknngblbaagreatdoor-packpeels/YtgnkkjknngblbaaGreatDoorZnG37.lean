/- Parts: HdM,HdP,HdQ,HE1,HE2,HP0,PkM,PkQ,HK0,HL1,PkE. -/
import Derived.Test.YtgnkkjknngblbaaGreatDoorZnG25
import Derived.Test.YtgnkkjknngblbaaGreatDoorZnG08
import Derived.Test.YtgnkkjknngblbaaGreatDoorZnG16
import Derived.Test.YtgnkkjknngblbaaGreatDoorZnG30
import Derived.Test.YtgnkkjknngblbaaGreatDoorZnG24
import Derived.Test.YtgnkkjknngblbaaGreatDoorZnG26
import Derived.Test.YtgnkkjknngblbaaGreatDoorZnG31
import Derived.Test.YtgnkkjknngblbaaGreatDoorZnG34
import Derived.Test.YtgnkkjknngblbaaGreatDoorZnG20
import Derived.Deep.RegionHeld3
namespace Go.Proofs.Hd
open Go.Proofs.Cc
theorem xorl_tk (a s:List UInt8) (k:Nat):(xorl a s).take k=xorl (a.take k) s:=by
 unfold xorl
 rw[List.take_zipWith]
 apply List.ext_getElem?
 intro i
 rw[List.getElem?_zipWith,List.getElem?_zipWith]
 by_cases h:i < k
 ·rw[List.getElem?_take_of_lt h,List.getElem?_take_of_lt h]
 ·rw[List.getElem?_take_eq_none (by omega)]
theorem xorl_dp (a s:List UInt8) (k:Nat):(xorl a s).drop k=xorl (a.drop k) (s.drop k):=by
 unfold xorl;rw[List.drop_zipWith]
theorem xorl_app (a b s:List UInt8) (_:a.length≤s.length):xorl (a++b) s=xorl a s++xorl b (s.drop a.length):=by
 have e1:(xorl (a++b) s).take a.length=xorl a s:=by rw[xorl_tk,List.take_left]
 have e2:(xorl (a++b) s).drop a.length=xorl b (s.drop a.length):=by rw[xorl_dp,List.drop_left]
 rw[←e1,←e2,List.take_append_drop]
theorem xorl_zero (s:List UInt8) (n:Nat) (h:s.length=n):xorl (List.replicate n 0) s=s:=by
 subst h
 unfold xorl
 apply List.ext_getElem?
 intro i
 rw[List.getElem?_zipWith]
 by_cases hi:i < s.length
 ·rw[List.getElem?_replicate_of_lt hi,List.getElem?_eq_getElem hi];simp
 ·rw[List.getElem?_eq_none (by simpa using hi),List.getElem?_eq_none (by omega)]
theorem xorl_short (a s:List UInt8):xorl a s=xorl a (s.take a.length):=by
 unfold xorl
 apply List.ext_getElem?
 intro i
 rw[List.getElem?_zipWith,List.getElem?_zipWith]
 by_cases h:i < a.length
 ·rw[List.getElem?_take_of_lt h]
 ·rw[List.getElem?_eq_none (by omega)]
def fil (F:Nat→List UInt8):Nat→List UInt8
 | 0=>[]
 | i+1=>xorl (fil F i++List.replicate 40 0) ((F i).drop (240 - 40*(i+1)))
theorem fil_succ (F:Nat→List UInt8) (i:Nat):fil F (i+1)=xorl (fil F i++List.replicate 40 0) ((F i).drop (240 - 40*(i+1))):=rfl
theorem fil_len (F:Nat→List UInt8) (hF:∀i,(F i).length=240) (i:Nat) (hi:i≤6):(fil F i).length=40*i:=by
 induction i with
 | zero=>rfl
 | succ i ih =>
  have:=ih (by omega)
  rw[fil_succ,xorl_len _ _ (by rw[List.length_append,this,List.length_replicate,List.length_drop,hF];omega),List.length_append,this,List.length_replicate]
  omega
theorem fil_parts (F:Nat→List UInt8) (hF:∀i,(F i).length=240) (i:Nat) (hi:i≤5):fil F (i+1)=xorl (fil F i) ((F i).drop (200 - 40*i))++(F i).drop 200:=by
 have hl:=fil_len F hF i (by omega)
 rw[fil_succ,show 240 - 40*(i+1)=200 - 40*i by omega,xorl_app _ _ _ (by rw[hl,List.length_drop,hF];omega),hl,List.drop_drop,show 200 - 40*i+40*i=200 by omega,xorl_zero _ _ (by rw[List.length_drop,hF])]
structure Lists (n:Nat) (F C:Nat→List UInt8) (M:Nat→List UInt8→List UInt8) (Z:List UInt8) (L:Nat→List UInt8):Prop where
 flow:∀i,(F i).length=240
 cmd:∀i,(C i).length=24
 mac:∀i l,(M i l).length=16
 fill:160≤Z.length
 many:1≤n∧n≤5
 last:L (n - 1)=xorl ((C (n - 1)++List.replicate 16 0++Z).take (200 - 40*(n - 1))) (F (n - 1))++fil F (n - 1)
 other:∀i,i+1 < n→L i=xorl (C i++M (i+1) (L (i+1))++(L (i+1)).take 160) (F i)
theorem Lists.ends {n:Nat} {F C:Nat→List UInt8} {M:Nat→List UInt8→List UInt8} {Z:List UInt8} {L:Nat→List UInt8} (h:Lists n F C M Z L) :
  ∀i,i < n→(L i).length=200∧(L i).drop (200 - 40*i)=fil F i:=by
 have key:∀j,j < n→(L (n - 1 - j)).length=200∧(L (n - 1 - j)).drop (200 - 40*(n - 1 - j))=fil F (n - 1 - j):=by
  intro j
  induction j with
  | zero =>
   intro _
   have hm:=h.many
   have hl:=fil_len F h.flow (n - 1) (by omega)
   have hp:((C (n - 1)++List.replicate 16 0++Z).take (200 - 40*(n - 1))).length=200 - 40*(n - 1):=by
    rw[List.length_take,List.length_append,List.length_append,h.cmd,List.length_replicate]
    have:=h.fill
    omega
   have hx:(xorl ((C (n - 1)++List.replicate 16 0++Z).take (200 - 40*(n - 1))) (F (n - 1))).length=200 - 40*(n - 1):=by
    rw[xorl_len _ _ (by rw[hp,h.flow];omega),hp]
   rw[Nat.sub_zero,h.last]
   refine⟨?_,?_⟩
   ·rw[List.length_append,hx,hl];omega
   ·rw[List.drop_append_of_le_length (by rw[hx];exact Nat.le_refl _),List.drop_of_length_le (by rw[hx];exact Nat.le_refl _),List.nil_append]
  | succ j ih =>
   intro hj
   have hm:=h.many
   obtain⟨i1,i2⟩:=ih (by omega)
   obtain⟨i,hi⟩:∃i,n - 1 - (j+1)=i:=⟨_,rfl⟩
   have e1:n - 1 - j=i+1:=by omega
   rw[hi]
   rw[e1] at i1 i2
   have ho:=h.other i (by omega)
   have hp:(C i++M (i+1) (L (i+1))++(L (i+1)).take 160).length=200:=by
    rw[List.length_append,List.length_append,h.cmd,h.mac,List.length_take,i1];omega
   refine⟨?_,?_⟩
   ·rw[ho,xorl_len _ _ (by rw[hp,h.flow];omega),hp]
   ·have hfi:=fil_len F h.flow i (by omega)
    have a1:(C i++M (i+1) (L (i+1))++(L (i+1)).take 160).drop (200 - 40*i)=((L (i+1)).take 160).drop (160 - 40*i):=by
     have hcm:(C i++M (i+1) (L (i+1))).length=40:=by rw[List.length_append,h.cmd,h.mac]
     rw[show 200 - 40*i=(C i++M (i+1) (L (i+1))).length+(160 - 40*i) by rw[hcm];omega,←List.drop_drop,List.drop_left]
    have a2:((L (i+1)).take 160).drop (160 - 40*i)=xorl (fil F i) ((F i).drop (200 - 40*i)):=by
     rw[show 200 - 40*(i+1)=160 - 40*i by omega,fil_parts F h.flow i (by omega)] at i2
     rw[List.drop_take,i2,show 160 - (160 - 40*i)=40*i by omega]
     have hxl:(xorl (fil F i) ((F i).drop (200 - 40*i))).length=40*i:=by
      rw[xorl_len _ _ (by rw[hfi,List.length_drop,h.flow];omega),hfi]
     rw[List.take_append_of_le_length (by rw[hxl];exact Nat.le_refl _),List.take_of_length_le (by rw[hxl];exact Nat.le_refl _)]
    rw[ho,xorl_dp,a1,a2,xorl_twice _ _ (by rw[hfi,List.length_drop,h.flow];omega)]
 intro i hi
 have:=key (n - 1 - i) (by omega)
 rw[show n - 1 - (n - 1 - i)=i by omega] at this
 exact this
theorem Lists.peel {n:Nat} {F C:Nat→List UInt8} {M:Nat→List UInt8→List UInt8} {Z:List UInt8} {L:Nat→List UInt8} (h:Lists n F C M Z L) (i:Nat) (hi:i+1 < n) :
  xorl (L i++List.replicate 40 0) (F i)=C i++M (i+1) (L (i+1))++L (i+1):=by
 have hm:=h.many
 obtain⟨i1,i2⟩:=h.ends (i+1) hi
 obtain⟨j1,-⟩:=h.ends i (by omega)
 have hp:(C i++M (i+1) (L (i+1))++(L (i+1)).take 160).length=200:=by
  rw[List.length_append,List.length_append,h.cmd,h.mac,List.length_take,i1];omega
 have a3:(L (i+1)).drop 160=(F i).drop 200:=by
  have hfi:=fil_len F h.flow i (by omega)
  have hxl:(xorl (fil F i) ((F i).drop (200 - 40*i))).length=40*i:=by
   rw[xorl_len _ _ (by rw[hfi,List.length_drop,h.flow];omega),hfi]
  rw[show 200 - 40*(i+1)=160 - 40*i by omega,fil_parts F h.flow i (by omega)] at i2
  have:(L (i+1)).drop 160=((L (i+1)).drop (160 - 40*i)).drop (40*i):=by rw[List.drop_drop];congr 1;omega
  rw[this,i2,List.drop_append_of_le_length (by rw[hxl];exact Nat.le_refl _),List.drop_of_length_le (by rw[hxl];exact Nat.le_refl _),List.nil_append]
 rw[xorl_app _ _ _ (by rw[j1,h.flow];omega),j1,xorl_zero _ _ (by rw[List.length_drop,h.flow]),h.other i hi,xorl_twice _ _ (by rw[hp,h.flow];omega),←a3,List.append_assoc,List.take_append_drop]
theorem Lists.peel_last {n:Nat} {F C:Nat→List UInt8} {M:Nat→List UInt8→List UInt8} {Z:List UInt8} {L:Nat→List UInt8} (h:Lists n F C M Z L) :
  (xorl (L (n - 1)++List.replicate 40 0) (F (n - 1))).take 24=C (n - 1):=by
 have hm:=h.many
 have hp:((C (n - 1)++List.replicate 16 0++Z).take (200 - 40*(n - 1))).length=200 - 40*(n - 1):=by
  rw[List.length_take,List.length_append,List.length_append,h.cmd,List.length_replicate]
  have:=h.fill
  omega
 rw[xorl_tk,h.last,List.append_assoc,List.take_append_of_le_length (by rw[xorl_len _ _ (by rw[hp,h.flow];omega),hp];omega),xorl_tk,xorl_twice _ _ (by rw[List.length_take,hp,h.flow];omega),List.take_take,Nat.min_eq_left (by omega),List.append_assoc,List.take_append_of_le_length (by rw[h.cmd];exact Nat.le_refl _),List.take_of_length_le (by rw[h.cmd];exact Nat.le_refl _)]
end Go.Proofs.Hd
namespace Go.Proofs.YtgnkkjknngblbaaGreatDoor
open Go.RowKit Go.Proofs.Fd Go.Proofs.Ed Go.Proofs.Hs Go.Proofs.Cc Go.Proofs.Hd Go.Proofs.Rt Go.Proofs.YtgnkkjknngblbaaGreatDoor.Crv
set_option maxRecDepth 20000
def cl (k:ByteArray):Nat:=clampN (num k.data.toList)
theorem cl_cl (k:ByteArray):Cl (cl k):=clampN_cl _
theorem htm_ek (k:ByteArray) (v:K):tm k (ek v)=lad (cl k) v:=by unfold Crv.tm cl;rw[pt_ek]
theorem cl_map (ks:List ByteArray):∀k∈ks.map cl,Cl k:=fun k hk=>by
 obtain⟨x,-,rfl⟩:=List.mem_map.1 hk
 exact cl_cl x
theorem itr_last (ks:List Nat) (k:Nat) (u:K):itr lad (ks++[k]) u=lad k (itr lad ks u):=by rw[itr_app,itr_cons,itr_nil]
theorem chn_from (ks:List ByteArray) (ls:List Nat) (hl:∀k∈ls,Cl k):chn ks (ek (itr lad ls 9))=some (ek (itr lad (ls++ks.map cl) 9)):=by
 induction ks generalizing ls with
 | nil=>rw[List.map_nil,List.append_nil,chn]
 | cons k ks ih =>
  have h2:∀x∈ls++[cl k],Cl x:=fun x hx=>by
   rcases List.mem_append.1 hx with h|h
   ·exact hl x h
   ·simp at h;subst h;exact cl_cl k
  have e:tm k (ek (itr lad ls 9))=itr lad (ls++[cl k]) 9:=by rw[htm_ek,itr_last]
  have hne:tm k (ek (itr lad ls 9))≠0:=by rw[e];exact chain_base _ h2
  have e2:chn (k::ks) (ek (itr lad ls 9))=chn ks (ek (tm k (ek (itr lad ls 9)))):=by
   show (if tm k (ek (itr lad ls 9))=0 then none else chn ks (ek (tm k (ek (itr lad ls 9)))))=_
   rw[if_neg hne]
  rw[e2,e,ih _ h2,List.append_assoc,List.map_cons,List.singleton_append]
theorem pub_itr (p:ByteArray):pub p=itr lad [cl p] 9:=by rw[itr_cons,itr_nil];unfold pub cl;rfl
def ptB (seed:ByteArray) (bs:List ByteArray):ByteArray:=ek (itr lad ((seed::bs).map cl) 9)
theorem ptB_nil (seed:ByteArray):ptB seed []=ek (pub seed):=by unfold ptB;rw[pub_itr,List.map_cons,List.map_nil]
theorem ptB_snoc (seed:ByteArray) (bs:List ByteArray) (b:ByteArray):ptB seed (bs++[b])=ek (tm b (ptB seed bs)):=by
 unfold ptB
 rw[htm_ek,←itr_last,←List.cons_append,List.map_append,List.map_cons (f:=cl) (a:=b),List.map_nil]
theorem ptB_size (seed:ByteArray) (bs:List ByteArray):(ptB seed bs).size=32:=ek_size _
theorem both (seed p:ByteArray) (bs:List ByteArray):tm p (ptB seed bs)≠0∧chn (seed::bs) (ek (pub p))=some (ek (tm p (ptB seed bs))):=by
 have hc:=cl_map (seed::bs)
 have h1:tm p (ptB seed bs)=lad (cl p) (itr lad ((seed::bs).map cl) 9):=htm_ek p _
 have h2:=chain_first (cl p) _ (cl_cl p) hc
 constructor
 ·rw[h1,←itr_last]
  refine chain_base _ fun x hx => ?_
  rcases List.mem_append.1 hx with h|h
  ·exact hc x h
  ·simp at h;subst h;exact cl_cl p
 ·rw[pub_itr,chn_from _ _ (fun x hx=>by simp at hx;subst hx;exact cl_cl p),h1,←h2,List.singleton_append,itr_cons]
def lFlow:List UInt8:=[102,108,111,119]
def lMac:List UInt8:=[109,97,99]
def lBody:List UInt8:=[98,111,100,121]
def lBlind:List UInt8:=[98,108,105,110,100]
def lTag:List UInt8:=[116,97,103]
def lPad:List UInt8:=[112,97,100]
def hdk (s:ByteArray) (l:List UInt8) (n:Nat):ByteArray:=⟨(drv s.data.toList l n).toArray⟩
def bld (s:ByteArray):ByteArray:=hdk s lBlind 32
def kv (s:ByteArray):Value := .agg #[.string (hdk s lFlow 32),.string (hdk s lMac 32),.string (hdk s lBody 32),.string (bld s),.string (hdk s lTag 16)]
def hflow (s:ByteArray):List UInt8:=strm (drv s.data.toList lFlow 32) (List.replicate 12 0) 0 240
def hmacf (s:ByteArray) (l:List UInt8):List UInt8:=(hmac (drv s.data.toList lMac 32) l).take 16
theorem hflow_len (s:ByteArray):(hflow s).length=240:=by unfold hflow;rw[strm_len]
theorem hmacf_len (s:ByteArray) (l:List UInt8):(hmacf s l).length=16:=by unfold hmacf;rw[List.length_take,hmac_len,Nat.min_eq_left (by decide)]
def secsG (ch:List ByteArray→ByteArray→Option ByteArray) (bl:ByteArray→ByteArray):List ByteArray→List ByteArray→Option (List ByteArray)
 | [],_=>some []
 | p::ps,bs=>(ch bs p).bind fun s=>(secsG ch bl ps (bs++[bl s])).map (s::·)
theorem secsG_nil (ch:List ByteArray→ByteArray→Option ByteArray) (bl:ByteArray→ByteArray) (bs:List ByteArray):secsG ch bl [] bs=some []:=rfl
theorem secsG_cons (ch:List ByteArray→ByteArray→Option ByteArray) (bl:ByteArray→ByteArray) (p:ByteArray) (ps bs:List ByteArray):secsG ch bl (p::ps) bs=(ch bs p).bind fun s=>(secsG ch bl ps (bs++[bl s])).map (s::·):=rfl
theorem secsG_len (ch:List ByteArray→ByteArray→Option ByteArray) (bl:ByteArray→ByteArray) (ps bs ss:List ByteArray) (h:secsG ch bl ps bs=some ss):ss.length=ps.length:=by
 induction ps generalizing bs ss with
 | nil=>rw[secsG_nil] at h;cases h;rfl
 | cons p ps ih =>
  rw[secsG_cons] at h
  obtain⟨s,-,h⟩:=Option.bind_eq_some_iff.1 h
  obtain⟨ts,ht,rfl⟩:=Option.map_eq_some_iff.1 h
  simp[ih _ _ ht]
theorem secsG_pub (ch:List ByteArray→ByteArray→Option ByteArray) (bl pk:ByteArray→ByteArray) (sh:ByteArray→List ByteArray→ByteArray) (H:∀bs k,ch bs (pk k)=some (sh k bs)) (ks bs:List ByteArray) :
  ∃ss,secsG ch bl (ks.map pk) bs=some ss∧ss.length=ks.length∧∀i (hi:i < ks.length),ss.getD i ⟨#[]⟩=sh ks[i] (bs++(ss.take i).map bl):=by
 induction ks generalizing bs with
 | nil=>exact⟨[],rfl,rfl,fun i hi=>by simp at hi⟩
 | cons k ks ih =>
  obtain⟨ts,h1,h2,h3⟩:=ih (bs++[bl (sh k bs)])
  refine⟨sh k bs::ts,?_,by simp[h2],fun i hi => ?_⟩
  ·rw[List.map_cons,secsG_cons,H,Option.bind_some,h1,Option.map_some]
  ·cases i with
   | zero=>simp
   | succ i =>
    have:=h3 i (by simpa using hi)
    rw[List.getD_cons_succ,this,List.append_assoc,List.take_succ_cons,List.map_cons,List.singleton_append,List.getElem_cons_succ]
def secs (seed:ByteArray) (ps bs:List ByteArray):Option (List ByteArray):=secsG (fun bs p=>chn (seed::bs) p) bld ps bs
theorem secs_pub (seed:ByteArray) (ks bs:List ByteArray):∃ss,secs seed (ks.map fun k=>ek (pub k)) bs=some ss∧ss.length=ks.length
  ∧ ∀i (hi:i < ks.length),ss.getD i ⟨#[]⟩=ek (tm ks[i] (ptB seed (bs++(ss.take i).map bld))) :=
 secsG_pub (fun bs p=>chn (seed::bs) p) bld (fun k=>ek (pub k)) (fun k bs=>ek (tm k (ptB seed bs))) (fun bs k=>(both seed k bs).2) ks bs
def lsts (n:Nat) (F C:Nat→List UInt8) (M:Nat→List UInt8→List UInt8) (Z:List UInt8):Nat→List UInt8
 | 0=>xorl ((C (n - 1)++List.replicate 16 0++Z).take (200 - 40*(n - 1))) (F (n - 1))++fil F (n - 1)
 | j+1=>xorl (C (n - 2 - j)++M (n - 1 - j) (lsts n F C M Z j)++(lsts n F C M Z j).take 160) (F (n - 2 - j))
theorem lsts_are (n:Nat) (F C:Nat→List UInt8) (M:Nat→List UInt8→List UInt8) (Z:List UInt8) (hF:∀i,(F i).length=240) (hC:∀i,(C i).length=24) (hM:∀i l,(M i l).length=16) (hZ:160≤Z.length) (hn:1≤n∧n≤5) :
  Lists n F C M Z (fun i=>lsts n F C M Z (n - 1 - i)) where
 flow:=hF
 cmd:=hC
 mac:=hM
 fill:=hZ
 many:=hn
 last:=by simp only[Nat.sub_self];rw[lsts]
 other:=fun i hi=>by
  have e:n - 1 - i=(n - 1 - (i+1))+1:=by omega
  rw[e,lsts]
  have e1:n - 2 - (n - 1 - (i+1))=i:=by omega
  have e2:n - 1 - (n - 1 - (i+1))=i+1:=by omega
  rw[e1,e2]
end Go.Proofs.YtgnkkjknngblbaaGreatDoor
namespace Go.Proofs.YtgnkkjknngblbaaGreatDoor
open Go.RowKit Go.Proofs.Fd Go.Proofs.Ed Go.Proofs.Hs Go.Proofs.Cc Go.Proofs.Hd Go.Proofs.Rt Go.Proofs.YtgnkkjknngblbaaGreatDoor.Crv
set_option maxRecDepth 20000
def nth (l:List ByteArray) (i:Nat):ByteArray:=l.getD i ⟨#[]⟩
def hlst (seed:ByteArray) (ss:List ByteArray) (hs:List Hp) (i:Nat):List UInt8 :=
 lsts hs.length (fun i=>hflow (nth ss i)) (fun i=>byt (hs.getD i zh)) (fun i l=>hmacf (nth ss i) l) (drv seed.data.toList lPad 200) (hs.length - 1 - i)
def hhead (seed:ByteArray) (ss:List ByteArray) (hs:List Hp) (i:Nat):List UInt8 :=
 (ptB seed ((ss.take i).map bld)).data.toList++hmacf (nth ss i) (hlst seed ss hs i)++hlst seed ss hs i
theorem byt_len' (hs:List Hp) (h:hs.all ok=true) (i:Nat):(byt (hs.getD i zh)).length=24:=by
 by_cases hi:i < hs.length
 ·rw[List.getD_eq_getElem?_getD,List.getElem?_eq_getElem hi]
  exact byt_len _ (List.all_eq_true.1 h _ (List.getElem_mem hi))
 ·rw[List.getD_eq_getElem?_getD,List.getElem?_eq_none (by omega)]
  rfl
theorem hlst_are (seed:ByteArray) (ss:List ByteArray) (hs:List Hp) (h:hs.all ok=true) (hn:1≤hs.length∧hs.length≤5) :
  Lists hs.length (fun i=>hflow (nth ss i)) (fun i=>byt (hs.getD i zh)) (fun i l=>hmacf (nth ss i) l) (drv seed.data.toList lPad 200) (hlst seed ss hs) :=
 lsts_are hs.length _ _ _ _ (fun _=>hflow_len _) (byt_len' hs h) (fun _ _=>hmacf_len _ _) (by unfold drv;rw[xpn_len];decide) hn
def kz:Value := .agg #[.string ⟨#[]⟩,.string ⟨#[]⟩,.string ⟨#[]⟩,.string ⟨#[]⟩,.string ⟨#[]⟩]
def hplain (s:ByteArray) (l:List UInt8):List UInt8:=xorl (l++List.replicate 40 0) (hflow s)
def plV (p h:ByteArray):Array Value :=
 if p.size=32∧h.size=248 then
  (if tm p (h.extract 0 32)=0 then #[hv zh,.string ⟨#[]⟩,kz,.int .i64 20]
  else if hmacf (ek (tm p (h.extract 0 32))) (h.data.toList.drop 48)=(h.data.toList.drop 32).take 16 then
   (match dcd ((hplain (ek (tm p (h.extract 0 32))) (h.data.toList.drop 48)).take 24) with
    | none=>#[hv zh,.string ⟨#[]⟩,kz,.int .i64 70]
    | some x=>#[hv x,.string (if x.k=1 then ⟨((ek (tm (bld (ek (tm p (h.extract 0 32)))) (h.extract 0 32))).data.toList++(hplain (ek (tm p (h.extract 0 32))) (h.data.toList.drop 48)).drop 24).toArray⟩ else ⟨#[]⟩),kv (ek (tm p (h.extract 0 32))),.int .i64 0])
  else #[hv zh,.string ⟨#[]⟩,kz,.int .i64 81])
 else #[hv zh,.string ⟨#[]⟩,kz,.int .i64 3]
theorem plV_some (p h s:ByteArray) (P M L:List UInt8) (x:Hp) (hp:p.size=32) (hh:h.data.toList=P++M++L) (lP:P.length=32) (lM:M.length=16) (lL:L.length=200) (h0:tm p ⟨P.toArray⟩≠0) (hs:s=ek (tm p ⟨P.toArray⟩)) (hm:hmacf s L=M) (hx:dcd ((hplain s L).take 24)=some x) :
  plV p h=#[hv x,.string (if x.k=1 then ⟨((ek (tm (bld s) ⟨P.toArray⟩)).data.toList++(hplain s L).drop 24).toArray⟩ else ⟨#[]⟩),kv s,.int .i64 0]:=by
 have z:h.size=248:=by
  have:h.data.toList.length=h.size:=by simp
  rw[←this,hh,List.length_append,List.length_append,lP,lM,lL]
 have e1:h.extract 0 32=⟨P.toArray⟩:=by
  apply ByteArray.ext
  rw[ByteArray.data_extract]
  apply Array.toList_inj.1
  rw[Array.toList_extract,List.extract_eq_take_drop,hh,List.drop_zero,List.append_assoc,List.take_append_of_le_length (by omega),List.take_of_length_le (by omega)]
 have e2:h.data.toList.drop 48=L:=by
  rw[hh,List.drop_append_of_le_length (by rw[List.length_append,lP,lM];decide),List.drop_of_length_le (by rw[List.length_append,lP,lM];decide),List.nil_append]
 have e3:(h.data.toList.drop 32).take 16=M:=by
  rw[hh,List.append_assoc,List.drop_append_of_le_length (by omega),List.drop_of_length_le (by omega),List.nil_append,List.take_append_of_le_length (by omega),List.take_of_length_le (by omega)]
 unfold plV
 rw[if_pos ⟨hp,z⟩,e1,if_neg h0,e2,e3,←hs,if_pos hm,hx]
theorem peel_whole (seed:ByteArray) (ks:List ByteArray) (hs:List Hp) (hk:∀k∈ks,k.size=32) (hp:pth hs=0) (hl:hs.length=ks.length) :
  ∃ss,secs seed (ks.map fun k=>ek (pub k)) []=some ss∧ss.length=ks.length∧∀i (hi:i < ks.length),
   plV ks[i] ⟨(hhead seed ss hs i).toArray⟩=#[hv (hs.getD i zh),.string (if i+1 < ks.length then ⟨(hhead seed ss hs (i+1)).toArray⟩ else ⟨#[]⟩),kv (nth ss i),.int .i64 0]∧(hhead seed ss hs i).length=248:=by
 obtain⟨ss,h1,h2,h3⟩:=secs_pub seed ks []
 refine⟨ss,h1,h2,fun i hi => ?_⟩
 obtain⟨g1,g2,g3,g4⟩:=pth_zero hs hp
 have LS:=hlst_are seed ss hs g1 ⟨g2,g3⟩
 obtain⟨e1,-⟩:=LS.ends i (by omega)
 have hsi:nth ss i=ek (tm ks[i] (ptB seed ((ss.take i).map bld))):=by
  have:=h3 i hi
  rw[List.nil_append] at this
  exact this
 have okx:ok (hs.getD i zh)=true:=by
  rw[List.getD_eq_getElem?_getD,List.getElem?_eq_getElem (by omega)]
  exact List.all_eq_true.1 g1 _ (List.getElem_mem (by omega))
 have lP:(ptB seed ((ss.take i).map bld)).data.toList.length=32:=by
  have:(ptB seed ((ss.take i).map bld)).data.toList.length=(ptB seed ((ss.take i).map bld)).size:=by simp
  rw[this,ptB_size]
 have ePt:(⟨(ptB seed ((ss.take i).map bld)).data.toList.toArray⟩:ByteArray)=ptB seed ((ss.take i).map bld):=rfl
 have hne:tm ks[i] (ptB seed ((ss.take i).map bld))≠0:=(both seed ks[i] _).1
 refine⟨?_,by unfold hhead;rw[List.length_append,List.length_append,lP,hmacf_len,e1]⟩
 by_cases hlast:i+1 < ks.length
 ·have hpl:hplain (nth ss i) (hlst seed ss hs i)=byt (hs.getD i zh)++hmacf (nth ss (i+1)) (hlst seed ss hs (i+1))++hlst seed ss hs (i+1):=LS.peel i (by omega)
  have hb:=byt_len _ okx
  have hd:dcd ((hplain (nth ss i) (hlst seed ss hs i)).take 24)=some (hs.getD i zh):=by
   rw[hpl,List.append_assoc,List.take_append_of_le_length (by omega),List.take_of_length_le (by omega)]
   exact dcd_byt _ okx
  have hk1:(hs.getD i zh).k=1:=(g4 i (by omega)).2 (by omega)
  rw[plV_some ks[i] _ (nth ss i) (ptB seed ((ss.take i).map bld)).data.toList (hmacf (nth ss i) (hlst seed ss hs i)) (hlst seed ss hs i) (hs.getD i zh) (hk _ (List.getElem_mem hi)) rfl lP (hmacf_len _ _) e1 (by rw[ePt];exact hne) (by rw[ePt];exact hsi) rfl hd,if_pos hk1,if_pos hlast,ePt]
  congr 4
  unfold hhead
  have e5:(hplain (nth ss i) (hlst seed ss hs i)).drop 24=hmacf (nth ss (i+1)) (hlst seed ss hs (i+1))++hlst seed ss hs (i+1):=by
   rw[hpl,List.append_assoc,List.drop_append_of_le_length (by omega),List.drop_of_length_le (by omega),List.nil_append]
  have e6:(ss.take (i+1)).map bld=(ss.take i).map bld++[bld (nth ss i)]:=by
   rw[List.take_succ_eq_append_getElem (by omega:i < ss.length),List.map_append]
   unfold nth
   rw[List.getD_eq_getElem?_getD,List.getElem?_eq_getElem (by omega)]
   rfl
  rw[e5,e6,ptB_snoc,List.append_assoc]
 ·have hin:i=hs.length - 1:=by omega
  have hpl:(hplain (nth ss i) (hlst seed ss hs i)).take 24=byt (hs.getD i zh):=by rw[hin];exact LS.peel_last
  have hk1:¬(hs.getD i zh).k=1:=fun q=>by have:=(g4 i (by omega)).1 q;omega
  rw[plV_some ks[i] _ (nth ss i) (ptB seed ((ss.take i).map bld)).data.toList (hmacf (nth ss i) (hlst seed ss hs i)) (hlst seed ss hs i) (hs.getD i zh) (hk _ (List.getElem_mem hi)) rfl lP (hmacf_len _ _) e1 (by rw[ePt];exact hne) (by rw[ePt];exact hsi) rfl (by rw[hpl];exact dcd_byt _ okx),if_neg hk1,if_neg hlast]
end Go.Proofs.YtgnkkjknngblbaaGreatDoor
namespace Go.Proofs.YtgnkkjknngblbaaGreatDoor
open Go.RowKit Go.Proofs.Fd Go.Proofs.Hs Go.Proofs.Cc Go.Proofs.Hd Go.Proofs.Rt
set_option maxRecDepth 20000
def pvL (i:Nat):List UInt8:=[112,114,105,118,97,116,101,UInt8.ofNat (48+i)]
def pv (s:ByteArray) (i:Nat):ByteArray:=⟨(drv s.data.toList (pvL i) 32).toArray⟩
theorem pv_size (s:ByteArray) (i:Nat):(pv s i).size=32:=by
 show (drv s.data.toList (pvL i) 32).toArray.size=32
 unfold drv
 simp[xpn_len]
def pp (s:ByteArray) (i:Nat):ByteArray:=Crv.ek (Crv.pub (pv s i))
theorem pp_size (s:ByteArray) (i:Nat):(pp s i).size=32:=Crv.ek_size _
end Go.Proofs.YtgnkkjknngblbaaGreatDoor
namespace Go.Proofs.YtgnkkjknngblbaaGreatDoor
open Go.RowKit Go.Proofs.Fd Go.Proofs.Hs Go.Proofs.Cc Go.Proofs.Hd Go.Proofs.Rt
set_option maxRecDepth 20000
def KeysAt (w:World) (v:Value) (ss:List ByteArray):Prop:=∃a c,v = .slice a ss.length c∧ss.length≤c∧c≤9223372036854775807∧∀i,i < ss.length→∃b o,a=some ⟨b,o,none⟩
  ∧ w.cell? ⟨b,o+i*5,none⟩=some (.string (hdk (nth ss i) lFlow 32))∧w.cell? ⟨b,o+i*5+1,none⟩=some (.string (hdk (nth ss i) lMac 32))∧w.cell? ⟨b,o+i*5+2,none⟩=some (.string (hdk (nth ss i) lBody 32))
  ∧ w.cell? ⟨b,o+i*5+3,none⟩=some (.string (bld (nth ss i)))∧w.cell? ⟨b,o+i*5+4,none⟩=some (.string (hdk (nth ss i) lTag 16))
theorem KeysAt.later {w w':World} {v:Value} {ss:List ByteArray} (h:KeysAt w v ss) (hb:Below w.heap.size w w'):KeysAt w' v ss:=by
 obtain⟨a,c,rfl,h1,h2,h3⟩:=h
 refine⟨a,c,rfl,h1,h2,fun i hi => ?_⟩
 obtain⟨b,o,ha,c0,c1,c2,c3,c4⟩:=h3 i hi
 exact⟨b,o,ha,cell_later hb c0,cell_later hb c1,cell_later hb c2,cell_later hb c3,cell_later hb c4⟩
def mkE (seed:ByteArray) (pts:List ByteArray) (hs:List Hp):Int :=
 if pth hs=0 then (if pts.length=hs.length then (if seed.size=32∧(pts.all fun p=>p.size == 32)=true then (match secs seed pts [] with|none=>20|some _=>0) else 3) else 4) else pth hs
def mkS (seed:ByteArray) (pts:List ByteArray) (hs:List Hp):List ByteArray:=if mkE seed pts hs=0 then (secs seed pts []).getD [] else []
def mkH (seed:ByteArray) (pts:List ByteArray) (hs:List Hp):ByteArray:=if mkE seed pts hs=0 then ⟨(hhead seed (mkS seed pts hs) hs 0).toArray⟩ else ⟨#[]⟩
def MakeC:Prop:=∀(seed:ByteArray) (a:Option Addr) (pts:List ByteArray) (n cap:Nat) (b:Option Addr) (hs:List Hp) (m cap2:Nat) (w:World),Hid (pts.length=n∧hs.length=m)→Hid (n*16≤140737488351232∧m*48≤140737488351232) →
  Hid (seed.size+64≤140737488355328)→Hid (∀p∈pts,p.size≤140737488355328)→Hid (∀h∈hs,h.id.size≤140737488355328)→Hid (Kh w)→Hid (StrAt w a pts)→Hid (HopsAt w b hs) →
  Calls Tryz.prog 16 #[.string seed,.slice a n cap,.slice b m cap2] w fun e w'=>∃v,e = .returned (.tuple #[.string (mkH seed pts hs),v,.int .i64 (mkE seed pts hs)])∧KeysAt w' v (mkS seed pts hs)∧Below w.heap.size w w'
def PeelC:Prop:=∀(p h:ByteArray) (w:World),Hid (p.size≤140737488355328)→Hid (h.size≤140737488355328)→Hid (Kh w) →
  Calls Tryz.prog 21 #[.string p,.string h] w fun e w'=>e = .returned (.tuple (plV p h))∧Below w.heap.size w w'
theorem hdk_size (s:ByteArray) (l:List UInt8) (n:Nat):(hdk s l n).size=n:=by
 show (drv s.data.toList l n).toArray.size=n
 unfold drv
 simp[xpn_len]
theorem made_pub (seed:ByteArray) (ks:List ByteArray) (hs:List Hp) (hz:seed.size=32) (hk:∀k∈ks,k.size=32) (hp:pth hs=0) (hl:hs.length=ks.length) :
  ∃ss,ss.length=ks.length∧mkE seed (ks.map fun k=>Crv.ek (Crv.pub k)) hs=0∧mkS seed (ks.map fun k=>Crv.ek (Crv.pub k)) hs=ss∧mkH seed (ks.map fun k=>Crv.ek (Crv.pub k)) hs=⟨(hhead seed ss hs 0).toArray⟩
   ∧ ∀i (hi:i < ks.length),plV ks[i] ⟨(hhead seed ss hs i).toArray⟩=#[hv (hs.getD i zh),.string (if i+1 < ks.length then ⟨(hhead seed ss hs (i+1)).toArray⟩ else ⟨#[]⟩),kv (nth ss i),.int .i64 0]∧(hhead seed ss hs i).length=248:=by
 obtain⟨ss,h1,h2,h3⟩:=peel_whole seed ks hs hk hp hl
 have e:mkE seed (ks.map fun k=>Crv.ek (Crv.pub k)) hs=0:=by
  have ha:((ks.map fun k=>Crv.ek (Crv.pub k)).all fun p=>p.size == 32)=true:=by
   rw[List.all_eq_true]
   intro x hx
   obtain⟨k,-,rfl⟩:=List.mem_map.1 hx
   simp[Crv.ek_size]
  unfold mkE
  rw[if_pos hp,if_pos (by rw[List.length_map];exact hl.symm),if_pos ⟨hz,ha⟩,h1]
 have es:mkS seed (ks.map fun k=>Crv.ek (Crv.pub k)) hs=ss:=by unfold mkS;rw[if_pos e,h1];rfl
 exact⟨ss,h2,e,es,by unfold mkH;rw[if_pos e,es],h3⟩
end Go.Proofs.YtgnkkjknngblbaaGreatDoor
namespace Go.Proofs.YtgnkkjknngblbaaGreatDoor
open Go.RowKit Go.Proofs.Fd Go.Proofs.Hs Go.Proofs.Cc Go.Proofs.Hd Go.Proofs.Rt
set_option maxRecDepth 20000
def zba (n:Nat):ByteArray:=⟨(List.replicate n (0:UInt8)).toArray⟩
theorem zba_size (n:Nat):(zba n).size=n:=by unfold zba;rw[ba_sz,List.length_replicate]
theorem zba_data (n:Nat):(zba n).data.toList=List.replicate n 0:=rfl
theorem strm_tk (k n:List UInt8) (c:UInt32) (m:Nat) (h:m≤240):(strm k n c 240).take m=strm k n c m:=by
 rw[←strm_of k n c 240 4 (by decide),List.take_take,Nat.min_eq_left h,strm_of k n c m 4 (by omega)]
def hk6 (s:ByteArray):Value := .agg #[.string s,.string (hdk s lFlow 32),.string (hdk s lMac 32),.string (hdk s lBody 32),.string (bld s),.string (hdk s lTag 16)]
def htn (s t:ByteArray):ByteArray:=⟨(xorl t.data.toList (hflow s)).toArray⟩
theorem htn_is (s t:ByteArray) (h:t.size≤240):(⟨(xorl t.data.toList (strm (hdk s lFlow 32).data.toList (zba 12).data.toList 0 t.size)).toArray⟩:ByteArray)=htn s t:=by
 unfold htn hflow
 rw[xorl_short t.data.toList (strm (drv s.data.toList lFlow 32) (List.replicate 12 0) 0 240),list_sz,strm_tk _ _ _ _ h]
 rfl
theorem htn_size (s t:ByteArray) (h:t.size≤240):(htn s t).size=t.size:=by
 unfold htn
 rw[ba_sz,xorl_len _ _ (by rw[list_sz,hflow_len];exact h),list_sz]
def hmb (s l:ByteArray):ByteArray:=⟨(hmacf s l.data.toList).toArray⟩
theorem hmb_size (s l:ByteArray):(hmb s l).size=16:=by unfold hmb;rw[ba_sz,hmacf_len]
def Six (w:World) (g:Nat) (k0 k1 k2 k3 k4 k5:ByteArray):Prop :=
 (∀o,w.frozen? ⟨g,o,none⟩=false)∧w.cell? ⟨g,0,none⟩=some (.string k0)∧w.cell? ⟨g,1,none⟩=some (.string k1)∧w.cell? ⟨g,2,none⟩=some (.string k2)∧w.cell? ⟨g,3,none⟩=some (.string k3)∧w.cell? ⟨g,4,none⟩=some (.string k4)∧w.cell? ⟨g,5,none⟩=some (.string k5)
theorem Six.later {w w':World} {g:Nat} {k0 k1 k2 k3 k4 k5:ByteArray} (h:Six w g k0 k1 k2 k3 k4 k5) (hb:Below w.heap.size w w'):Six w' g k0 k1 k2 k3 k4 k5:=by
 obtain⟨f,h0,h1,h2,h3,h4,h5⟩:=h
 exact⟨fun o=>(frozen_kept hb (World.block_lt_of_cell? _ _ h0)).trans (f o),cell_later hb h0,cell_later hb h1,cell_later hb h2,cell_later hb h3,cell_later hb h4,cell_later hb h5⟩
theorem Six.lt {w:World} {g:Nat} {k0 k1 k2 k3 k4 k5:ByteArray} (h:Six w g k0 k1 k2 k3 k4 k5):g < w.heap.size:=World.block_lt_of_cell? _ _ h.2.1
theorem Six.new (w:World) (t:TypeId) (y0 y1 y2 y3 y4 y5:ByteArray):Six (w.alloc (.cells #[.string y0,.string y1,.string y2,.string y3,.string y4,.string y5] t)) w.heap.size y0 y1 y2 y3 y4 y5 :=
 ⟨fun o=>by simp[go_sem],by simp[go_sem],by simp[go_sem],by simp[go_sem],by simp[go_sem],by simp[go_sem],by simp[go_sem]⟩
theorem Six.set1 {w:World} {g:Nat} {k0 k1 k2 k3 k4 k5:ByteArray} (h:Six w g k0 k1 k2 k3 k4 k5) (x:ByteArray):Six (w.setCell ⟨g,1,none⟩ (.string x)) g k0 x k2 k3 k4 k5:=by
 obtain⟨f,h0,h1,h2,h3,h4,h5⟩:=h
 refine⟨fun o=>by simp[go_sem,f],?_,?_,?_,?_,?_,?_⟩ <;> simp[go_sem,h0,h1,h2,h3,h4,h5]
theorem Six.set2 {w:World} {g:Nat} {k0 k1 k2 k3 k4 k5:ByteArray} (h:Six w g k0 k1 k2 k3 k4 k5) (x:ByteArray):Six (w.setCell ⟨g,2,none⟩ (.string x)) g k0 k1 x k3 k4 k5:=by
 obtain⟨f,h0,h1,h2,h3,h4,h5⟩:=h
 refine⟨fun o=>by simp[go_sem,f],?_,?_,?_,?_,?_,?_⟩ <;> simp[go_sem,h0,h1,h2,h3,h4,h5]
theorem Six.set3 {w:World} {g:Nat} {k0 k1 k2 k3 k4 k5:ByteArray} (h:Six w g k0 k1 k2 k3 k4 k5) (x:ByteArray):Six (w.setCell ⟨g,3,none⟩ (.string x)) g k0 k1 k2 x k4 k5:=by
 obtain⟨f,h0,h1,h2,h3,h4,h5⟩:=h
 refine⟨fun o=>by simp[go_sem,f],?_,?_,?_,?_,?_,?_⟩ <;> simp[go_sem,h0,h1,h2,h3,h4,h5]
theorem Six.set4 {w:World} {g:Nat} {k0 k1 k2 k3 k4 k5:ByteArray} (h:Six w g k0 k1 k2 k3 k4 k5) (x:ByteArray):Six (w.setCell ⟨g,4,none⟩ (.string x)) g k0 k1 k2 k3 x k5:=by
 obtain⟨f,h0,h1,h2,h3,h4,h5⟩:=h
 refine⟨fun o=>by simp[go_sem,f],?_,?_,?_,?_,?_,?_⟩ <;> simp[go_sem,h0,h1,h2,h3,h4,h5]
theorem Six.set5 {w:World} {g:Nat} {k0 k1 k2 k3 k4 k5:ByteArray} (h:Six w g k0 k1 k2 k3 k4 k5) (x:ByteArray):Six (w.setCell ⟨g,5,none⟩ (.string x)) g k0 k1 k2 k3 k4 x:=by
 obtain⟨f,h0,h1,h2,h3,h4,h5⟩:=h
 refine⟨fun o=>by simp[go_sem,f],?_,?_,?_,?_,?_,?_⟩ <;> simp[go_sem,h0,h1,h2,h3,h4,h5]
theorem Six.range {w:World} {b:Nat} {x0 x1 x2 x3 x4 x5:ByteArray} (h:Six w b x0 x1 x2 x3 x4 x5):w.rangeAt b 0 [.string x0,.string x1,.string x2,.string x3,.string x4,.string x5]:=by
 obtain⟨-,h0,h1,h2,h3,h4,h5⟩:=h
 intro j v hv
 rcases (by have:=(List.getElem?_eq_some_iff.1 hv).1;simp at this;omega:j=0∨j=1∨j=2∨j=3∨j=4∨j=5) with rfl|rfl|rfl|rfl|rfl|rfl
 ·simp at hv;subst hv;simpa using h0
 ·simp at hv;subst hv;simpa using h1
 ·simp at hv;subst hv;simpa using h2
 ·simp at hv;subst hv;simpa using h3
 ·simp at hv;subst hv;simpa using h4
 ·simp at hv;subst hv;simpa using h5
theorem Six.whole {w:World} {b:Nat} {x0 x1 x2 x3 x4 x5:ByteArray} (h:Six w b x0 x1 x2 x3 x4 x5) (y0 y1 y2 y3 y4 y5:ByteArray) :
  Six ((((((w.setCell ⟨b,0,none⟩ (.string y0)).setCell ⟨b,1,none⟩ (.string y1)).setCell ⟨b,2,none⟩ (.string y2)).setCell ⟨b,3,none⟩ (.string y3)).setCell ⟨b,4,none⟩ (.string y4)).setCell ⟨b,5,none⟩ (.string y5)) b y0 y1 y2 y3 y4 y5:=by
 obtain⟨f,h0,h1,h2,h3,h4,h5⟩:=h
 refine⟨fun o=>by simp[go_sem,f],?_,?_,?_,?_,?_,?_⟩ <;> simp[go_sem,h0,h1,h2,h3,h4,h5]
theorem below_six {B:Nat} {a w:World} (h:Below B a w) {c:Nat} (hc:B≤c) (y0 y1 y2 y3 y4 y5:Value) :
  Below B a ((((((w.setCell ⟨c,0,none⟩ y0).setCell ⟨c,1,none⟩ y1).setCell ⟨c,2,none⟩ y2).setCell ⟨c,3,none⟩ y3).setCell ⟨c,4,none⟩ y4).setCell ⟨c,5,none⟩ y5) :=
 (((((h.setCell (p:=⟨c,0,none⟩) hc _).setCell (p:=⟨c,1,none⟩) hc _).setCell (p:=⟨c,2,none⟩) hc _).setCell (p:=⟨c,3,none⟩) hc _).setCell (p:=⟨c,4,none⟩) hc _).setCell (p:=⟨c,5,none⟩) hc _
def Five (w:World) (g:Nat) (k0 k1 k2 k3 k4:ByteArray):Prop :=
 (∀o,w.frozen? ⟨g,o,none⟩=false)∧w.cell? ⟨g,0,none⟩=some (.string k0)∧w.cell? ⟨g,1,none⟩=some (.string k1)∧w.cell? ⟨g,2,none⟩=some (.string k2)∧w.cell? ⟨g,3,none⟩=some (.string k3)∧w.cell? ⟨g,4,none⟩=some (.string k4)
theorem Five.later {w w':World} {g:Nat} {k0 k1 k2 k3 k4:ByteArray} (h:Five w g k0 k1 k2 k3 k4) (hb:Below w.heap.size w w'):Five w' g k0 k1 k2 k3 k4:=by
 obtain⟨f,h0,h1,h2,h3,h4⟩:=h
 exact⟨fun o=>(frozen_kept hb (World.block_lt_of_cell? _ _ h0)).trans (f o),cell_later hb h0,cell_later hb h1,cell_later hb h2,cell_later hb h3,cell_later hb h4⟩
theorem Five.lt {w:World} {g:Nat} {k0 k1 k2 k3 k4:ByteArray} (h:Five w g k0 k1 k2 k3 k4):g < w.heap.size:=World.block_lt_of_cell? _ _ h.2.1
theorem Five.new (w:World) (t:TypeId) (y0 y1 y2 y3 y4:ByteArray):Five (w.alloc (.cells #[.string y0,.string y1,.string y2,.string y3,.string y4] t)) w.heap.size y0 y1 y2 y3 y4 :=
 ⟨fun o=>by simp[go_sem],by simp[go_sem],by simp[go_sem],by simp[go_sem],by simp[go_sem],by simp[go_sem]⟩
theorem Five.range {w:World} {b:Nat} {x0 x1 x2 x3 x4:ByteArray} (h:Five w b x0 x1 x2 x3 x4):w.rangeAt b 0 [.string x0,.string x1,.string x2,.string x3,.string x4]:=by
 obtain⟨-,h0,h1,h2,h3,h4⟩:=h
 intro j v hv
 rcases (by have:=(List.getElem?_eq_some_iff.1 hv).1;simp at this;omega:j=0∨j=1∨j=2∨j=3∨j=4) with rfl|rfl|rfl|rfl|rfl
 ·simp at hv;subst hv;simpa using h0
 ·simp at hv;subst hv;simpa using h1
 ·simp at hv;subst hv;simpa using h2
 ·simp at hv;subst hv;simpa using h3
 ·simp at hv;subst hv;simpa using h4
theorem Five.whole {w:World} {b:Nat} {x0 x1 x2 x3 x4:ByteArray} (h:Five w b x0 x1 x2 x3 x4) (y0 y1 y2 y3 y4:ByteArray) :
  Five (((((w.setCell ⟨b,0,none⟩ (.string y0)).setCell ⟨b,1,none⟩ (.string y1)).setCell ⟨b,2,none⟩ (.string y2)).setCell ⟨b,3,none⟩ (.string y3)).setCell ⟨b,4,none⟩ (.string y4)) b y0 y1 y2 y3 y4:=by
 obtain⟨f,h0,h1,h2,h3,h4⟩:=h
 refine⟨fun o=>by simp[go_sem,f],?_,?_,?_,?_,?_⟩ <;> simp[go_sem,h0,h1,h2,h3,h4]
theorem below_five {B:Nat} {a w:World} (h:Below B a w) {c:Nat} (hc:B≤c) (y0 y1 y2 y3 y4:Value) :
  Below B a (((((w.setCell ⟨c,0,none⟩ y0).setCell ⟨c,1,none⟩ y1).setCell ⟨c,2,none⟩ y2).setCell ⟨c,3,none⟩ y3).setCell ⟨c,4,none⟩ y4) :=
 ((((h.setCell (p:=⟨c,0,none⟩) hc _).setCell (p:=⟨c,1,none⟩) hc _).setCell (p:=⟨c,2,none⟩) hc _).setCell (p:=⟨c,3,none⟩) hc _).setCell (p:=⟨c,4,none⟩) hc _
theorem wh_all (ps:List ByteArray):(ps.all fun p=>p.size == 32)=Crv.wh ps:=rfl
end Go.Proofs.YtgnkkjknngblbaaGreatDoor
namespace Go.Proofs.YtgnkkjknngblbaaGreatDoor
open Go.RowKit Go.Proofs.Fd Go.Proofs.Hs Go.Proofs.Cc Go.Proofs.Hd Go.Proofs.Rt Go.Proofs.Wd
set_option maxRecDepth 20000
def bdy (s:ByteArray):ByteArray:=hdk s lBody 32
def rtg (s:ByteArray):ByteArray:=hdk s lTag 16
def pld:List ByteArray→List UInt8→List UInt8
 | [],t=>plainl t 256
 | s::r,t=>shutl (bdy s).data.toList (pld r t)
theorem pld_nil (t:List UInt8):pld [] t=plainl t 256:=by rw[pld]
theorem pld_cons (s:ByteArray) (r:List ByteArray) (t:List UInt8):pld (s::r) t=shutl (bdy s).data.toList (pld r t):=by rw[pld]
theorem pld_len (ss:List ByteArray) (t:List UInt8) (h:t.length≤222):(pld ss t).length=256:=by
 induction ss with
 | nil=>rw[pld_nil,plainl_len _ _ (by omega)]
 | cons s r ih=>rw[pld_cons,shutl_len _ _ (by omega),ih]
theorem pld_open (s:ByteArray) (r:List ByteArray) (t:List UInt8) (h:t.length≤222):openl (bdy s).data.toList (pld (s::r) t)=pld r t:=by
 rw[pld_cons,open_shut _ _ (by rw[pld_len r t h];decide)]
theorem pld_text (t:List UInt8) (h:t.length≤222):textl (pld [] t)=some t:=by
 rw[pld_nil,text_plain t 256 (by omega) (by decide)]
abbrev Had8:=Except Int (Hp×ByteArray×ByteArray)
def hpl (p h:ByteArray):Had8 :=
 if p.size=32∧h.size=248 then
  (if Crv.tm p (h.extract 0 32)=0 then .error 20
  else if hmacf (Crv.ek (Crv.tm p (h.extract 0 32))) (h.data.toList.drop 48)=(h.data.toList.drop 32).take 16 then
   (match dcd ((hplain (Crv.ek (Crv.tm p (h.extract 0 32))) (h.data.toList.drop 48)).take 24) with
    | none => .error 70
    | some x => .ok (x,(if x.k=1 then ⟨((Crv.ek (Crv.tm (bld (Crv.ek (Crv.tm p (h.extract 0 32)))) (h.extract 0 32))).data.toList++(hplain (Crv.ek (Crv.tm p (h.extract 0 32))) (h.data.toList.drop 48)).drop 24).toArray⟩ else ⟨#[]⟩),(Crv.ek (Crv.tm p (h.extract 0 32)))))
  else .error 81)
 else .error 3
def h8V:Had8→Array Value
 | .error e=>#[hv zh,.string ⟨#[]⟩,kz,.int .i64 e]
 | .ok (x,n,s)=>#[hv x,.string n,kv s,.int .i64 0]
theorem plV_hpl (p h:ByteArray):plV p h=h8V (hpl p h):=by
 unfold plV hpl
 by_cases q1:p.size=32∧h.size=248
 ·rw[if_pos q1,if_pos q1]
  by_cases q2:Crv.tm p (h.extract 0 32)=0
  ·rw[if_pos q2,if_pos q2,h8V]
  ·rw[if_neg q2,if_neg q2]
   by_cases q3:hmacf (Crv.ek (Crv.tm p (h.extract 0 32))) (h.data.toList.drop 48)=(h.data.toList.drop 32).take 16
   ·rw[if_pos q3,if_pos q3]
    cases dcd ((hplain (Crv.ek (Crv.tm p (h.extract 0 32))) (h.data.toList.drop 48)).take 24) with
    | none=>simp only[h8V]
    | some x=>simp only[h8V]
   ·rw[if_neg q3,if_neg q3,h8V]
 ·rw[if_neg q1,if_neg q1,h8V]
theorem h8V_on {a:Had8} {x:Hp} {n s:ByteArray} (h:h8V a=#[hv x,.string n,kv s,.int .i64 0]) (hk:∀e:Int,a ≠ .error e):∃s',a = .ok (x,n,s')∧kv s'=kv s:=by
 cases a with
 | error e=>exact absurd rfl (hk e)
 | ok v =>
  obtain⟨y,m,s'⟩:=v
  simp only[h8V] at h
  have h':=congrArg Array.toList h
  simp only[List.cons.injEq] at h'
  obtain⟨h1,h2,h3,-⟩:=h'
  have e1:y=x:=by
   obtain⟨a1,a2,a3,a4,a5⟩:=y
   obtain⟨b1,b2,b3,b4,b5⟩:=x
   unfold hv at h1
   simp at h1
   obtain⟨rfl,rfl,rfl,rfl,rfl⟩:=h1
   rfl
  have e2:m=n:=by simpa using h2
  subst e1 e2
  exact⟨s',rfl,h3⟩
def pdv (x:Hp) (n t s:ByteArray):Value := .agg #[.int .i64 x.k,.int .i64 x.n,.int .i64 x.u,.int .i64 x.d,.string x.id,.string n,.string t,.string s]
def pdz:Value:=pdv zh ⟨#[]⟩ ⟨#[]⟩ ⟨#[]⟩
def ppV (p b:ByteArray):Array Value :=
 if b.size=504 then (match hpl p (b.extract 0 248) with
  | .error e=>#[pdz,.int .i64 e]
  | .ok (x,n,s)=>if x.k=1 then #[pdv x ⟨(n.data.toList++openl (bdy s).data.toList (b.data.toList.drop 248)).toArray⟩ (rtg s) ⟨#[]⟩,.int .i64 0]
   else (match textl (openl (bdy s).data.toList (b.data.toList.drop 248)) with
    | none=>#[pdz,.int .i64 90]
    | some t=>#[pdv x ⟨#[]⟩ (rtg s) ⟨t.toArray⟩,.int .i64 0]))
 else #[pdz,.int .i64 3]
theorem ppV_of (p:ByteArray) (h:ByteArray) (B:List UInt8) (x:Hp) (n s:ByteArray) (zh':h.size=248) (zB:B.length=256) (he:hpl p h = .ok (x,n,s)) :
  ppV p ⟨(h.data.toList++B).toArray⟩=if x.k=1 then #[pdv x ⟨(n.data.toList++openl (bdy s).data.toList B).toArray⟩ (rtg s) ⟨#[]⟩,.int .i64 0]
   else (match textl (openl (bdy s).data.toList B) with
    | none=>#[pdz,.int .i64 90]
    | some t=>#[pdv x ⟨#[]⟩ (rtg s) ⟨t.toArray⟩,.int .i64 0]):=by
 have e1:(⟨(h.data.toList++B).toArray⟩:ByteArray).extract 0 248=h:=by
  apply ByteArray.ext
  apply Array.toList_inj.1
  rw[ba_cut,List.drop_zero,List.take_append_of_le_length (by rw[list_sz];omega),List.take_of_length_le (by rw[list_sz];omega)]
 have e2:(⟨(h.data.toList++B).toArray⟩:ByteArray).data.toList.drop 248=B:=by
  show (h.data.toList++B).drop 248=B
  rw[List.drop_append_of_le_length (by rw[list_sz];omega),List.drop_of_length_le (by rw[list_sz];omega),List.nil_append]
 have z:(⟨(h.data.toList++B).toArray⟩:ByteArray).size=504:=by rw[ba_sz,List.length_append,list_sz,zh',zB]
 unfold ppV
 rw[if_pos z,e1,he,e2]
end Go.Proofs.YtgnkkjknngblbaaGreatDoor
namespace Go.Proofs.YtgnkkjknngblbaaGreatDoor
open Go.RowKit Go.Proofs.Fd Go.Proofs.Hs Go.Proofs.Cc Go.Proofs.Hd Go.Proofs.Rt Go.Proofs.Wd
set_option maxRecDepth 20000
theorem kv_parts {a b:ByteArray} (h:kv a=kv b):bdy a=bdy b∧rtg a=rtg b:=by
 unfold kv at h
 simp only[Value.agg.injEq] at h
 have h':=congrArg Array.toList h
 simp only[List.cons.injEq,Value.string.injEq] at h'
 exact⟨h'.2.2.1,h'.2.2.2.2.1⟩
theorem kv_ne (s:ByteArray):kz≠kv s:=by
 intro h
 unfold kz kv at h
 simp only[Value.agg.injEq] at h
 have h':=congrArg Array.toList h
 simp only[List.cons.injEq,Value.string.injEq] at h'
 have:=congrArg ByteArray.size h'.1
 rw[hdk_size] at this
 exact absurd this (by decide)
theorem hpl_on {p h:ByteArray} {x:Hp} {n s:ByteArray} (e:plV p h=#[hv x,.string n,kv s,.int .i64 0]):∃s',hpl p h = .ok (x,n,s')∧bdy s'=bdy s∧rtg s'=rtg s:=by
 rw[plV_hpl] at e
 obtain⟨s',h1,h2⟩:=h8V_on e (fun c hc=>by
  rw[hc] at e
  simp only[h8V] at e
  have h':=congrArg Array.toList e
  simp only[List.cons.injEq] at h'
  exact kv_ne s h'.2.2.1)
 exact⟨s',h1,kv_parts h2⟩
def pkt (seed:ByteArray) (ss:List ByteArray) (hs:List Hp) (t:List UInt8) (i:Nat):ByteArray:=⟨(hhead seed ss hs i++pld (ss.drop i) t).toArray⟩
theorem pack_step (seed:ByteArray) (ks:List ByteArray) (hs:List Hp) (hz:seed.size=32) (hk:∀k∈ks,k.size=32) (hp:pth hs=0) (hl:hs.length=ks.length) :
  ∃ss,ss.length=ks.length∧mkE seed (ks.map fun k=>Crv.ek (Crv.pub k)) hs=0∧mkS seed (ks.map fun k=>Crv.ek (Crv.pub k)) hs=ss∧mkH seed (ks.map fun k=>Crv.ek (Crv.pub k)) hs=⟨(hhead seed ss hs 0).toArray⟩
   ∧ ∀i (hi:i < ks.length),(hhead seed ss hs i).length=248∧∀B:List UInt8,B.length=256→ppV ks[i] ⟨(hhead seed ss hs i++B).toArray⟩ =
    if i+1 < ks.length then #[pdv (hs.getD i zh) ⟨(hhead seed ss hs (i+1)++openl (bdy (nth ss i)).data.toList B).toArray⟩ (rtg (nth ss i)) ⟨#[]⟩,.int .i64 0]
    else (match textl (openl (bdy (nth ss i)).data.toList B) with
     | none=>#[pdz,.int .i64 90]
     | some t=>#[pdv (hs.getD i zh) ⟨#[]⟩ (rtg (nth ss i)) ⟨t.toArray⟩,.int .i64 0]):=by
 obtain⟨ss,s1,s2,s3,s4,s5⟩:=made_pub seed ks hs hz hk hp hl
 obtain⟨g1,g2,g3,g4⟩:=pth_zero hs hp
 refine⟨ss,s1,s2,s3,s4,fun i hi => ?_⟩
 obtain⟨p1,p2⟩:=s5 i hi
 refine⟨p2,fun B hB => ?_⟩
 obtain⟨s',q1,q2,q3⟩:=hpl_on p1
 have:=ppV_of ks[i] ⟨(hhead seed ss hs i).toArray⟩ B _ _ _ (by rw[ba_sz];exact p2) hB q1
 rw[this,q2,q3]
 by_cases hlast:i+1 < ks.length
 ·have hk1:(hs.getD i zh).k=1:=(g4 i (by omega)).2 (by omega)
  rw[if_pos hk1,if_pos hlast,if_pos hlast]
 ·have hk1:¬(hs.getD i zh).k=1:=fun q=>by have:=(g4 i (by omega)).1 q;omega
  first
  | (rw[if_neg hk1,if_neg hlast];done)
  | (rw[if_neg hk1,if_neg hlast];cases textl (openl (bdy (nth ss i)).data.toList B) <;> rfl)
end Go.Proofs.YtgnkkjknngblbaaGreatDoor
namespace Go.Proofs.YtgnkkjknngblbaaGreatDoor
open Go.RowKit Go.Proofs.Fd
set_option maxRecDepth 20000
end Go.Proofs.YtgnkkjknngblbaaGreatDoor
namespace Go.Proofs.YtgnkkjknngblbaaGreatDoor
open Go.RowKit Go.Proofs.Fd Go.Proofs.Hs Go.Proofs.Cc Go.Proofs.Hd Go.Proofs.Rt
set_option maxRecDepth 20000
end Go.Proofs.YtgnkkjknngblbaaGreatDoor
namespace Go.Proofs.YtgnkkjknngblbaaGreatDoor
open Go.RowKit Go.Proofs.Fd Go.Proofs.Hs Go.Proofs.Cc Go.Proofs.Hd Go.Proofs.Rt Go.Proofs.Wd
set_option maxRecDepth 20000
set_option maxHeartbeats 1000000 in
theorem private9_any (s:ByteArray) (i:Nat) (hi:i < 200) (hs:Hid (s.size+64≤140737488355328)) (w:World) (hK:Hid (Kh w)) :
  Calls Tryz.prog 14 #[.string s,.int .i64 (i:Int)] w fun e w'=>e = .returned (.string (pv s i))∧Below w.heap.size w w':=by
 obtain⟨Lb,hLb⟩:∃L:ByteArray,⟨(pvL i).toArray⟩=L:=⟨_,rfl⟩
 have DV:Hid (∀w,Kh w→Calls Tryz.prog 27 #[.string s,.string Lb,.int .i64 32] w fun e w'=>e = .returned (.tuple #[.string (pv s i),.int .i64 0])∧Below w.heap.size w w'):=fun w h=>by
  have:=derive_c s Lb 32 w hs (by rw[←hLb];show (8:Nat)+97≤_;decide) h
  unfold drV at this
  rw[if_neg (by decide)] at this
  rw[←hLb] at this ⊢
  exact this
 generalize pv s i=X at *
 obtain⟨b,hb⟩:∃b,UInt8.ofNat (48+i)=b:=⟨_,rfl⟩
 have bn:(b.toNat:Int)=48+(i:Int):=by rw[←hb,UInt8.toNat_ofNat'];omega
 have t1:IntKind.i64.wrap (48+(i:Int))=48+(i:Int):=by rw[IntKind.wrap_i64];omega
 have t2:IntKind.u8.wrap (48+(i:Int))=48+(i:Int):=by rw[IntKind.wrap_u8];omega
 have t3:(48+(i:Int)) % 256=48+(i:Int):=by omega
 obtain⟨W,hW⟩:∃W,w.alloc (.cells #[.int .u8 (48+(i:Int))] 5)=W:=⟨_,rfl⟩
 have CB:(convert 43 9 (.slice (some ⟨w.heap.size,0,none⟩) 1 1)).run Tryz.prog W = .ok (.string ⟨[b].toArray⟩) W:=by
  have h:BytesAt W w.heap.size [b]:=fun j hj=>by
   obtain rfl:j=0:=by simp at hj;omega
   rw[←hW]
   exact⟨by rw[World.cell?_alloc_new];simp[bn],by simp[go_sem]⟩
  exact h.string rfl
 have AD:∀w,(Op.stringOp .add ⟨#[112,114,105,118,97,116,101]⟩ ⟨[b].toArray⟩).run Tryz.prog w = .ok (.string Lb) w:=fun w=>by
  have e:(⟨#[112,114,105,118,97,116,101]⟩:ByteArray)++⟨[b].toArray⟩=Lb:=by
   rw[←hLb,←hb]
   apply ByteArray.ext
   simp[pvL]
  rw[←e]
  exact run_string_add_sum _ _ _ (by show (7:Nat)+1≤_;decide)
 have BW:Hid (Below w.heap.size w W∧Kh W):=by
  rw[←hW]
  exact⟨(Below.refl _ _).alloc (Nat.le_refl _) _,hK.out.alloc _⟩
 clear hb bn hLb
 go_enter Tryz.func14, Tryz.ntmps14
 go_wp2_with fail
 refine Calls.mono (DV.out _ BW.out.2) ?_
 rintro e w1 ⟨rfl,hb1⟩
 have B1:Hid (Below w.heap.size w w1):=chain BW.out.1 hb1
 clear hb1 DV
 go_wp2
 go_ret
 exact⟨rfl,B1.out⟩
set_option maxHeartbeats 1000000 in
theorem public9_any (s:ByteArray) (i:Nat) (hi:i < 200) (hs:Hid (s.size+64≤140737488355328)) (w:World) (hK:Hid (Kh w)) :
  Calls Tryz.prog 15 #[.string s,.int .i64 (i:Int)] w fun e w'=>e = .returned (.string (pp s i))∧Below w.heap.size w w':=by
 have P1:Hid (∀w,Kh w→Calls Tryz.prog 14 #[.string s,.int .i64 (i:Int)] w fun e w'=>e = .returned (.string (pv s i))∧Below w.heap.size w w'):=fun w h=>private9_any s i hi hs w h
 have P2:Hid (∀w,Calls Tryz.prog 28 #[.string (pv s i)] w fun e w'=>e = .returned (.tuple #[.string (pp s i),.int .i64 0])∧Below w.heap.size w w'):=fun w=>Crv.Public_ok (pv s i) (pv_size s i) w
 generalize pp s i=X at *
 generalize pv s i=Y at *
 go_enter Tryz.func15, Tryz.ntmps15
 go_wp2_with fail
 refine Calls.mono (P1.out _ hK.out) ?_
 rintro e w1 ⟨rfl,hb1⟩
 have B1:Hid (Below w.heap.size w w1):=hb1
 clear hb1 P1
 go_wp2_with fail
 refine Calls.mono (P2.out _) ?_
 rintro e w2 ⟨rfl,hb2⟩
 have B2:Hid (Below w.heap.size w w2):=chain B1.out hb2
 clear hb2 P2
 go_wp2
 go_ret
 exact⟨rfl,B2.out⟩
def pmE (seed:ByteArray) (pts:List ByteArray) (t:ByteArray) (hs:List Hp):Int:=if mkE seed pts hs=0 then (if t.size≤222 then 0 else 2) else mkE seed pts hs
def pmB (seed:ByteArray) (pts:List ByteArray) (t:ByteArray) (hs:List Hp):ByteArray:=if pmE seed pts t hs=0 then ⟨((mkH seed pts hs).data.toList++pld (mkS seed pts hs) t.data.toList).toArray⟩ else ⟨#[]⟩
theorem pm_no (seed:ByteArray) (pts:List ByteArray) (t:ByteArray) (hs:List Hp) (h:¬mkE seed pts hs=0):pmE seed pts t hs=mkE seed pts hs∧pmB seed pts t hs=⟨#[]⟩:=by
 have e:pmE seed pts t hs=mkE seed pts hs:=if_neg h
 exact⟨e,if_neg (by rw[e];exact h)⟩
theorem pm_long (seed:ByteArray) (pts:List ByteArray) (t:ByteArray) (hs:List Hp) (h:mkE seed pts hs=0) (ht:222 < t.size):pmE seed pts t hs=2∧pmB seed pts t hs=⟨#[]⟩:=by
 have e:pmE seed pts t hs=2:=by unfold pmE;rw[if_pos h,if_neg (by omega)]
 exact⟨e,if_neg (by rw[e];decide)⟩
theorem pm_ok (seed:ByteArray) (pts:List ByteArray) (t:ByteArray) (hs:List Hp) (h:mkE seed pts hs=0) (ht:t.size≤222):pmE seed pts t hs=0∧pmB seed pts t hs=⟨((mkH seed pts hs).data.toList++pld (mkS seed pts hs) t.data.toList).toArray⟩:=by
 have e:pmE seed pts t hs=0:=by unfold pmE;rw[if_pos h,if_pos ht]
 exact⟨e,if_pos e⟩
def PMakeC:Prop:=∀(seed:ByteArray) (a:Option Addr) (pts:List ByteArray) (n cap:Nat) (t:ByteArray) (b:Option Addr) (hs:List Hp) (m cap2:Nat) (w:World),Hid (pts.length=n∧hs.length=m)→Hid (n*16≤140737488351232∧m*48≤140737488351232) →
  Hid (seed.size+64≤140737488355328)→Hid (∀p∈pts,p.size≤140737488355328)→Hid (∀h∈hs,h.id.size≤140737488355328)→Hid (t.size≤140737488355328)→Hid (Kh w)→Hid (StrAt w a pts)→Hid (HopsAt w b hs) →
  Calls Tryz.prog 8 #[.string seed,.slice a n cap,.string t,.slice b m cap2] w fun e w'=>e = .returned (.tuple #[.string (pmB seed pts t hs),.int .i64 (pmE seed pts t hs)])∧Below w.heap.size w w'
def PPeelC:Prop:=∀(p b:ByteArray) (w:World),Hid (p.size≤140737488355328)→Hid (b.size≤140737488355328)→Hid (Kh w) →
  Calls Tryz.prog 12 #[.string p,.string b] w fun e w'=>e = .returned (.tuple (ppV p b))∧Below w.heap.size w w'
theorem pack_made (seed:ByteArray) (ks:List ByteArray) (hs:List Hp) (t:ByteArray) (hz:seed.size=32) (hk:∀k∈ks,k.size=32) (hp:pth hs=0) (hl:hs.length=ks.length) (ht:t.size≤222) :
  ∃ss:List ByteArray,ss.length=ks.length∧pmE seed (ks.map fun k=>Crv.ek (Crv.pub k)) t hs=0∧pmB seed (ks.map fun k=>Crv.ek (Crv.pub k)) t hs=pkt seed ss hs t.data.toList 0
   ∧ ∀i (hi:i < ks.length),(pkt seed ss hs t.data.toList i).size=504∧ppV ks[i] (pkt seed ss hs t.data.toList i) =
    if i+1 < ks.length then #[pdv (hs.getD i zh) (pkt seed ss hs t.data.toList (i+1)) (rtg (nth ss i)) ⟨#[]⟩,.int .i64 0]
    else #[pdv (hs.getD i zh) ⟨#[]⟩ (rtg (nth ss i)) t,.int .i64 0]:=by
 obtain⟨ss,s1,s2,s3,s4,s5⟩:=pack_step seed ks hs hz hk hp hl
 have lt:t.data.toList.length≤222:=by rw[list_sz];exact ht
 refine⟨ss,s1,(pm_ok _ _ _ _ s2 ht).1,?_,fun i hi => ?_⟩
 ·rw[(pm_ok _ _ _ _ s2 ht).2,s3,s4]
  unfold pkt
  rw[List.drop_zero]
 ·obtain⟨p1,p2⟩:=s5 i hi
  have hd:ss.drop i=nth ss i::ss.drop (i+1):=by
   unfold nth
   rw[List.getD_eq_getElem?_getD,List.getElem?_eq_getElem (by omega)]
   exact List.drop_eq_getElem_cons (by omega)
  refine⟨by unfold pkt;rw[ba_sz,List.length_append,p1,pld_len _ _ lt],?_⟩
  have:=p2 (pld (ss.drop i) t.data.toList) (pld_len _ _ lt)
  unfold pkt
  rw[this,hd,pld_open _ _ _ lt]
  by_cases hlast:i+1 < ks.length
  ·rw[if_pos hlast,if_pos hlast]
  ·rw[if_neg hlast,if_neg hlast,List.drop_of_length_le (by omega),pld_text _ lt]
end Go.Proofs.YtgnkkjknngblbaaGreatDoor
