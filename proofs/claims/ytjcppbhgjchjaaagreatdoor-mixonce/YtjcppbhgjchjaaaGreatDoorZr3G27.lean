/- A part of the walk. -/
import Derived.Test.YtjcppbhgjchjaaaGreatDoorZr3G08
import Derived.Test.YtjcppbhgjchjaaaGreatDoorZr3G20
import Derived.Test.YtjcppbhgjchjaaaGreatDoorZr3G17
import Derived.Test.YtjcppbhgjchjaaaGreatDoorZr3G23
set_option maxHeartbeats 8000000
set_option maxRecDepth 20000
namespace Go.Proofs.Hd
open Go.Proofs.Cc
theorem ze3 (a s:List UInt8) (k:Nat):(za0 a s).take k=za0 (a.take k) s:=by
  unfold za0;rw[List.take_zipWith];apply List.ext_getElem?;intro i;rw[List.getElem?_zipWith,List.getElem?_zipWith];by_cases h:i < k
  . rw[List.getElem?_take_of_lt h,List.getElem?_take_of_lt h]
  . rw[List.getElem?_take_eq_none (by omega)]
theorem zie (a s:List UInt8) (k:Nat):(za0 a s).drop k=za0 (a.drop k) (s.drop k):=by
  unfold za0;rw[List.drop_zipWith]
theorem zfX (a b s:List UInt8) (_:a.length<=s.length):za0 (a++b) s=za0 a s++za0 b (s.drop a.length):=by
  have e1:(za0 (a++b) s).take a.length=za0 a s:=by rw[ze3,List.take_left]
  have e2:(za0 (a++b) s).drop a.length=za0 b (s.drop a.length):=by rw[zie,List.drop_left]
  rw[<-e1,<-e2,List.take_append_drop]
theorem zd9 (s:List UInt8) (n:Nat) (h:s.length=n):za0 (List.replicate n 0) s=s:=by
  subst h;unfold za0;apply List.ext_getElem?;intro i;rw[List.getElem?_zipWith];by_cases hi:i < s.length
  . rw[List.getElem?_replicate_of_lt hi,List.getElem?_eq_getElem hi];simp
  . rw[List.getElem?_eq_none (by simpa using hi),List.getElem?_eq_none (by omega)]
theorem zun (a s:List UInt8):za0 a s=za0 a (s.take a.length):=by
  unfold za0;apply List.ext_getElem?;intro i;rw[List.getElem?_zipWith,List.getElem?_zipWith];by_cases h:i < a.length
  . rw[List.getElem?_take_of_lt h]
  . rw[List.getElem?_eq_none (by omega)]
def fil (F:Nat->List UInt8):Nat->List UInt8
  | 0=>[]
  | i+1=>za0 (fil F i++List.replicate 40 0) ((F i).drop (240 - 40*(i+1)))
theorem zfY (F:Nat->List UInt8) (i:Nat):fil F (i+1)=za0 (fil F i++List.replicate 40 0) ((F i).drop (240 - 40*(i+1))):=rfl
theorem zdk (F:Nat->List UInt8) (hF:∀i,(F i).length=240) (i:Nat) (hi:i<=6):(fil F i).length=40*i:=by
  induction i with
  | zero=>rfl
  | succ i ih =>
    have:=ih (by omega);rw[zfY,zaQ _ _ (by rw[List.length_append,this,List.length_replicate,List.length_drop,hF];omega),List.length_append,this,List.length_replicate];omega
theorem zea (F:Nat->List UInt8) (hF:∀i,(F i).length=240) (i:Nat) (hi:i<=5):fil F (i+1)=za0 (fil F i) ((F i).drop (200 - 40*i))++(F i).drop 200:=by
  have hl:=zdk F hF i (by omega);rw[zfY,show 240 - 40*(i+1)=200 - 40*i by omega,zfX _ _ _ (by rw[hl,List.length_drop,hF];omega),hl,List.drop_drop,show 200 - 40*i+40*i=200 by omega,zd9 _ _ (by rw[List.length_drop,hF])]
structure zeb (n:Nat) (F C:Nat->List UInt8) (M:Nat->List UInt8->List UInt8) (Z:List UInt8) (L:Nat->List UInt8):Prop where
  flow:∀i,(F i).length=240
  cmd:∀i,(C i).length=24
  mac:∀i l,(M i l).length=16
  fill:160<=Z.length
  many:1<=n/\n<=5
  last:L (n - 1)=za0 ((C (n - 1)++List.replicate 16 0++Z).take (200 - 40*(n - 1))) (F (n - 1))++fil F (n - 1)
  other:∀i,i+1 < n->L i=za0 (C i++M (i+1) (L (i+1))++(L (i+1)).take 160) (F i)
theorem zeb.ends {n:Nat} {F C:Nat->List UInt8} {M:Nat->List UInt8->List UInt8} {Z:List UInt8} {L:Nat->List UInt8} (h:zeb n F C M Z L) :
    ∀i,i < n->(L i).length=200/\(L i).drop (200 - 40*i)=fil F i:=by
  have key:∀j,j < n->(L (n - 1 - j)).length=200/\(L (n - 1 - j)).drop (200 - 40*(n - 1 - j))=fil F (n - 1 - j):=by
    intro j
    induction j with
    | zero =>
      intro _;have hm:=h.many;have hl:=zdk F h.flow (n - 1) (by omega);have hp:((C (n - 1)++List.replicate 16 0++Z).take (200 - 40*(n - 1))).length=200 - 40*(n - 1):=by
        rw[List.length_take,List.length_append,List.length_append,h.cmd,List.length_replicate];have:=h.fill;omega
      have hx:(za0 ((C (n - 1)++List.replicate 16 0++Z).take (200 - 40*(n - 1))) (F (n - 1))).length=200 - 40*(n - 1):=by
        rw[zaQ _ _ (by rw[hp,h.flow];omega),hp]
      rw[Nat.sub_zero,h.last];refine⟨?_,?_⟩
      . rw[List.length_append,hx,hl];omega
      . rw[List.drop_append_of_le_length (by rw[hx];exact nL _),List.drop_of_length_le (by rw[hx];exact nL _),List.nil_append]
    | succ j ih =>
      intro hj;have hm:=h.many;obtain⟨i1,i2⟩:=ih (by omega);obtain⟨i,hi⟩:∃i,n - 1 - (j+1)=i:=⟨_,rfl⟩;have e1:n - 1 - j=i+1:=by omega
      rw[hi];rw[e1] at i1 i2;have ho:=h.other i (by omega);have hp:(C i++M (i+1) (L (i+1))++(L (i+1)).take 160).length=200:=by
        rw[List.length_append,List.length_append,h.cmd,h.mac,List.length_take,i1];omega
      refine⟨?_,?_⟩
      . rw[ho,zaQ _ _ (by rw[hp,h.flow];omega),hp]
      . have hfi:=zdk F h.flow i (by omega)
        have a1:(C i++M (i+1) (L (i+1))++(L (i+1)).take 160).drop (200 - 40*i)=((L (i+1)).take 160).drop (160 - 40*i):=by
          have hcm:(C i++M (i+1) (L (i+1))).length=40:=by rw[List.length_append,h.cmd,h.mac]
          rw[show 200 - 40*i=(C i++M (i+1) (L (i+1))).length+(160 - 40*i) by rw[hcm];omega,<-List.drop_drop,List.drop_left]
        have a2:((L (i+1)).take 160).drop (160 - 40*i)=za0 (fil F i) ((F i).drop (200 - 40*i)):=by
          rw[show 200 - 40*(i+1)=160 - 40*i by omega,zea F h.flow i (by omega)] at i2;rw[List.drop_take,i2,show 160 - (160 - 40*i)=40*i by omega];have hxl:(za0 (fil F i) ((F i).drop (200 - 40*i))).length=40*i:=by
            rw[zaQ _ _ (by rw[hfi,List.length_drop,h.flow];omega),hfi]
          rw[List.take_append_of_le_length (by rw[hxl];exact nL _),List.take_of_length_le (by rw[hxl];exact nL _)]
        rw[ho,zie,a1,a2,zbP _ _ (by rw[hfi,List.length_drop,h.flow];omega)]
  intro i hi;have:=key (n - 1 - i) (by omega);rw[show n - 1 - (n - 1 - i)=i by omega] at this;exact this
theorem zeb.peel {n:Nat} {F C:Nat->List UInt8} {M:Nat->List UInt8->List UInt8} {Z:List UInt8} {L:Nat->List UInt8} (h:zeb n F C M Z L) (i:Nat) (hi:i+1 < n) :
    za0 (L i++List.replicate 40 0) (F i)=C i++M (i+1) (L (i+1))++L (i+1):=by
  have hm:=h.many;obtain⟨i1,i2⟩:=h.ends (i+1) hi;obtain⟨j1,-⟩:=h.ends i (by omega);have hp:(C i++M (i+1) (L (i+1))++(L (i+1)).take 160).length=200:=by
    rw[List.length_append,List.length_append,h.cmd,h.mac,List.length_take,i1];omega
  have a3:(L (i+1)).drop 160=(F i).drop 200:=by
    have hfi:=zdk F h.flow i (by omega);have hxl:(za0 (fil F i) ((F i).drop (200 - 40*i))).length=40*i:=by
      rw[zaQ _ _ (by rw[hfi,List.length_drop,h.flow];omega),hfi]
    rw[show 200 - 40*(i+1)=160 - 40*i by omega,zea F h.flow i (by omega)] at i2;have:(L (i+1)).drop 160=((L (i+1)).drop (160 - 40*i)).drop (40*i):=by rw[List.drop_drop];congr 1;omega
    rw[this,i2,List.drop_append_of_le_length (by rw[hxl];exact nL _),List.drop_of_length_le (by rw[hxl];exact nL _),List.nil_append]
  rw[zfX _ _ _ (by rw[j1,h.flow];omega),j1,zd9 _ _ (by rw[List.length_drop,h.flow]),h.other i hi,zbP _ _ (by rw[hp,h.flow];omega),<-a3,List.append_assoc,List.take_append_drop]
theorem zeb.peel_last {n:Nat} {F C:Nat->List UInt8} {M:Nat->List UInt8->List UInt8} {Z:List UInt8} {L:Nat->List UInt8} (h:zeb n F C M Z L) :
    (za0 (L (n - 1)++List.replicate 40 0) (F (n - 1))).take 24=C (n - 1):=by
  have hm:=h.many;have hp:((C (n - 1)++List.replicate 16 0++Z).take (200 - 40*(n - 1))).length=200 - 40*(n - 1):=by
    rw[List.length_take,List.length_append,List.length_append,h.cmd,List.length_replicate];have:=h.fill;omega
  rw[ze3,h.last,List.append_assoc,List.take_append_of_le_length (by rw[zaQ _ _ (by rw[hp,h.flow];omega),hp];omega),ze3,zbP _ _ (by rw[List.length_take,hp,h.flow];omega),List.take_take,Nat.min_eq_left (by omega),List.append_assoc,List.take_append_of_le_length (by rw[h.cmd];exact nL _),List.take_of_length_le (by rw[h.cmd];exact nL _)]
end Go.Proofs.Hd
namespace Go.Proofs.YtjcppbhgjchjaaaGreatDoor
open Go.RowKit Go.Proofs.Fd Go.Proofs.Ed Go.Proofs.Hs Go.Proofs.Cc Go.Proofs.Hd Go.Proofs.Rt Go.Proofs.YtjcppbhgjchjaaaGreatDoor.Crv
def cl (k:Ba):Nat:=clampN (num k.data.toList)
theorem zec (k:Ba) (v:K):tm k (ek v)=lad (cl k) v:=by unfold Crv.tm cl;rw[zqx]
theorem zkH (ks:List Nat) (k:Nat) (u:K):itr lad (ks++[k]) u=lad k (itr lad ks u):=by rw[zmy,zca,zhC]
theorem zna (p:Ba):pub p=itr lad [cl p] 9:=by rw[zca,zhC];unfold pub cl;rfl
def ptB (seed:Ba) (bs:List Ba):Ba:=ek (itr lad ((seed::bs).map cl) 9)
theorem znb (seed:Ba):ptB seed []=ek (pub seed):=by unfold ptB;rw[zna,List.map_cons,List.map_nil]
theorem zkI (seed:Ba) (bs:List Ba) (b:Ba):ptB seed (bs++[b])=ek (tm b (ptB seed bs)):=by
  unfold ptB;rw[zec,<-zkH,<-List.cons_append,List.map_append,List.map_cons (f:=cl) (a:=b),List.map_nil]
theorem zfZ (seed:Ba) (bs:List Ba):(ptB seed bs).size=32:=ek_size _
def zo9:List UInt8:=[102,108,111,119]
def zr8:List UInt8:=[109,97,99]
def zpa:List UInt8:=[98,111,100,121]
def zif:List UInt8:=[98,108,105,110,100]
def zqe:List UInt8:=[116,97,103]
def zr9:List UInt8:=[112,97,100]
def hdk (s:Ba) (l:List UInt8) (n:Nat):Ba:=⟨(drv s.data.toList l n).toArray⟩
def bld (s:Ba):Ba:=hdk s zif 32
def kv (s:Ba):Value := .agg #[.string (hdk s zo9 32),.string (hdk s zr8 32),.string (hdk s zpa 32),.string (bld s),.string (hdk s zqe 16)]
def zig (s:Ba):List UInt8:=zqb (drv s.data.toList zo9 32) (List.replicate 12 0) 0 240
def zbS (s:Ba) (l:List UInt8):List UInt8:=(zd2 (drv s.data.toList zr8 32) l).take 16
theorem zih (s:Ba):(zig s).length=240:=by unfold zig;rw[zfR]
theorem zbc (s:Ba) (l:List UInt8):(zbS s l).length=16:=by unfold zbS;rw[List.length_take,zcb,Nat.min_eq_left (by decide)]
def zii (ch:List Ba->Ba->Option Ba) (bl:Ba->Ba):List Ba->List Ba->Option (List Ba)
  | [],_=>some []
  | p::ps,bs=>(ch bs p).bind fun s=>(zii ch bl ps (bs++[bl s])).map (s::·)
theorem zij (ch:List Ba->Ba->Option Ba) (bl:Ba->Ba) (bs:List Ba):zii ch bl [] bs=some []:=rfl
theorem zcO (ch:List Ba->Ba->Option Ba) (bl:Ba->Ba) (p:Ba) (ps bs:List Ba):zii ch bl (p::ps) bs=(ch bs p).bind fun s=>(zii ch bl ps (bs++[bl s])).map (s::·):=rfl
theorem ztr (ch:List Ba->Ba->Option Ba) (bl:Ba->Ba) (ps bs ss:List Ba) (h:zii ch bl ps bs=some ss):ss.length=ps.length:=by
  induction ps generalizing bs ss with
  | nil=>rw[zij] at h;cases h;rfl
  | cons p ps ih =>
    rw[zcO] at h;obtain⟨s,-,h⟩:=Option.bind_eq_some_iff.1 h;obtain⟨ts,ht,rfl⟩:=Option.map_eq_some_iff.1 h;simp[ih _ _ ht]
def zpb (seed:Ba) (ps bs:List Ba):Option (List Ba):=zii (fun bs p=>chn (seed::bs) p) bld ps bs
def zom (n:Nat) (F C:Nat->List UInt8) (M:Nat->List UInt8->List UInt8) (Z:List UInt8):Nat->List UInt8
  | 0=>za0 ((C (n - 1)++List.replicate 16 0++Z).take (200 - 40*(n - 1))) (F (n - 1))++fil F (n - 1)
  | j+1=>za0 (C (n - 2 - j)++M (n - 1 - j) (zom n F C M Z j)++(zom n F C M Z j).take 160) (F (n - 2 - j))
theorem zkJ (n:Nat) (F C:Nat->List UInt8) (M:Nat->List UInt8->List UInt8) (Z:List UInt8) (hF:∀i,(F i).length=240) (hC:∀i,(C i).length=24) (hM:∀i l,(M i l).length=16) (hZ:160<=Z.length) (hn:1<=n/\n<=5) :
    zeb n F C M Z (fun i=>zom n F C M Z (n - 1 - i)) where
  flow:=hF
  cmd:=hC
  mac:=hM
  fill:=hZ
  many:=hn
  last:=by simp only[Nat.sub_self];rw[zom]
  other:=fun i hi=>by
    have e:n - 1 - i=(n - 1 - (i+1))+1:=by omega
    rw[e,zom];have e1:n - 2 - (n - 1 - (i+1))=i:=by omega
    have e2:n - 1 - (n - 1 - (i+1))=i+1:=by omega
    rw[e1,e2]
def nth (l:List Ba) (i:Nat):Ba:=l.getD i ⟨#[]⟩
def ze4 (seed:Ba) (ss:List Ba) (hs:List Hp) (i:Nat):List UInt8 :=
  zom hs.length (fun i=>zig (nth ss i)) (fun i=>byt (hs.getD i zh)) (fun i l=>zbS (nth ss i) l) (drv seed.data.toList zr9 200) (hs.length - 1 - i)
def za3 (seed:Ba) (ss:List Ba) (hs:List Hp) (i:Nat):List UInt8 :=
  (ptB seed ((ss.take i).map bld)).data.toList++zbS (nth ss i) (ze4 seed ss hs i)++ze4 seed ss hs i
theorem zkK (hs:List Hp) (h:hs.all ok=true) (i:Nat):(byt (hs.getD i zh)).length=24:=by
  by_cases hi:i < hs.length
  . rw[List.getD_eq_getElem?_getD,List.getElem?_eq_getElem hi]
    exact ze0 _ (List.all_eq_true.1 h _ (List.getElem_mem hi))
  . rw[List.getD_eq_getElem?_getD,List.getElem?_eq_none (by omega)]
    rfl
theorem zf0 (seed:Ba) (ss:List Ba) (hs:List Hp) (h:hs.all ok=true) (hn:1<=hs.length/\hs.length<=5) :
    zeb hs.length (fun i=>zig (nth ss i)) (fun i=>byt (hs.getD i zh)) (fun i l=>zbS (nth ss i) l) (drv seed.data.toList zr9 200) (ze4 seed ss hs) :=
  zkJ hs.length _ _ _ _ (fun _=>zih _) (zkK hs h) (fun _ _=>zbc _ _) (by unfold drv;rw[zbs];decide) hn
def kz:Value := .agg #[.string ⟨#[]⟩,.string ⟨#[]⟩,.string ⟨#[]⟩,.string ⟨#[]⟩,.string ⟨#[]⟩]
def zbd (s:Ba) (l:List UInt8):List UInt8:=za0 (l++List.replicate 40 0) (zig s)
def plV (p h:Ba):Array Value :=
  if p.size=32/\h.size=248 then
    (if tm p (h.extract 0 32)=0 then #[hv zh,.string ⟨#[]⟩,kz,.int .i64 20]
    else if zbS (ek (tm p (h.extract 0 32))) (h.data.toList.drop 48)=(h.data.toList.drop 32).take 16 then
      (match dcd ((zbd (ek (tm p (h.extract 0 32))) (h.data.toList.drop 48)).take 24) with
        | none=>#[hv zh,.string ⟨#[]⟩,kz,.int .i64 70]
        | some x=>#[hv x,.string (if x.k=1 then ⟨((ek (tm (bld (ek (tm p (h.extract 0 32)))) (h.extract 0 32))).data.toList++(zbd (ek (tm p (h.extract 0 32))) (h.data.toList.drop 48)).drop 24).toArray⟩ else ⟨#[]⟩),kv (ek (tm p (h.extract 0 32))),.int .i64 0])
    else #[hv zh,.string ⟨#[]⟩,kz,.int .i64 81])
  else #[hv zh,.string ⟨#[]⟩,kz,.int .i64 3]
theorem zf1 (p h s:Ba) (P M L:List UInt8) (x:Hp) (hp:p.size=32) (hh:h.data.toList=P++M++L) (lP:P.length=32) (lM:M.length=16) (lL:L.length=200) (h0:tm p ⟨P.toArray⟩≠0) (hs:s=ek (tm p ⟨P.toArray⟩)) (hm:zbS s L=M) (hx:dcd ((zbd s L).take 24)=some x) :
    plV p h=#[hv x,.string (if x.k=1 then ⟨((ek (tm (bld s) ⟨P.toArray⟩)).data.toList++(zbd s L).drop 24).toArray⟩ else ⟨#[]⟩),kv s,.int .i64 0]:=by
  have z:h.size=248:=by
    have:h.data.toList.length=h.size:=by simp
    rw[<-this,hh,List.length_append,List.length_append,lP,lM,lL]
  have e1:h.extract 0 32=⟨P.toArray⟩:=by
    apply ByteArray.ext;rw[ByteArray.data_extract];apply Array.toList_inj.1;rw[Array.toList_extract,List.extract_eq_take_drop,hh,List.drop_zero,List.append_assoc,List.take_append_of_le_length (by omega),List.take_of_length_le (by omega)]
  have e2:h.data.toList.drop 48=L:=by
    rw[hh,List.drop_append_of_le_length (by rw[List.length_append,lP,lM];decide),List.drop_of_length_le (by rw[List.length_append,lP,lM];decide),List.nil_append]
  have e3:(h.data.toList.drop 32).take 16=M:=by
    rw[hh,List.append_assoc,List.drop_append_of_le_length (by omega),List.drop_of_length_le (by omega),List.nil_append,List.take_append_of_le_length (by omega),List.take_of_length_le (by omega)]
  unfold plV;rw[if_pos ⟨hp,z⟩,e1,if_neg h0,e2,e3,<-hs,if_pos hm,hx]
end Go.Proofs.YtjcppbhgjchjaaaGreatDoor
namespace Go.Proofs.YtjcppbhgjchjaaaGreatDoor
open Go.RowKit Go.Proofs.Fd Go.Proofs.Hs Go.Proofs.Cc Go.Proofs.Hd Go.Proofs.Rt
def pvL (i:Nat):List UInt8:=[112,114,105,118,97,116,101,UInt8.ofNat (48+i)]
def pv (s:Ba) (i:Nat):Ba:=⟨(drv s.data.toList (pvL i) 32).toArray⟩
theorem zbe (s:Ba) (i:Nat):(pv s i).size=32:=by
  show (drv s.data.toList (pvL i) 32).toArray.size=32;unfold drv;simp[zbs]
def pp (s:Ba) (i:Nat):Ba:=Crv.ek (Crv.pub (pv s i))
theorem zik (s:Ba) (i:Nat):(pp s i).size=32:=Crv.ek_size _
def zsM (w:Wo) (v:Value) (ss:List Ba):Prop:=∃a c,v = .slice a ss.length c/\ss.length<=c/\c<=9223372036854775807/\∀i,i < ss.length->∃b o,a=some ⟨b,o,none⟩
    /\ w.cell? ⟨b,o+i*5,none⟩=some (.string (hdk (nth ss i) zo9 32))/\w.cell? ⟨b,o+i*5+1,none⟩=some (.string (hdk (nth ss i) zr8 32))/\w.cell? ⟨b,o+i*5+2,none⟩=some (.string (hdk (nth ss i) zpa 32))
    /\ w.cell? ⟨b,o+i*5+3,none⟩=some (.string (bld (nth ss i)))/\w.cell? ⟨b,o+i*5+4,none⟩=some (.string (hdk (nth ss i) zqe 16))
def mkE (seed:Ba) (pts:List Ba) (hs:List Hp):Int :=
  if pth hs=0 then (if pts.length=hs.length then (if seed.size=32/\(pts.all fun p=>p.size == 32)=true then (match zpb seed pts [] with|none=>20|some _=>0) else 3) else 4) else pth hs
def mkS (seed:Ba) (pts:List Ba) (hs:List Hp):List Ba:=if mkE seed pts hs=0 then (zpb seed pts []).getD [] else []
def mkH (seed:Ba) (pts:List Ba) (hs:List Hp):Ba:=if mkE seed pts hs=0 then ⟨(za3 seed (mkS seed pts hs) hs 0).toArray⟩ else ⟨#[]⟩
def zxa:Prop:=∀(seed:Ba) (a:Option Addr) (pts:List Ba) (n cap:Nat) (b:Option Addr) (hs:List Hp) (m cap2:Nat) (w:Wo),Hid (pts.length=n/\hs.length=m)->Hid (n*16<=140737488351232/\m*48<=140737488351232) ->
    Hid (seed.size+64<=140737488355328)->Hid (∀p∈pts,p.size<=140737488355328)->Hid (∀h∈hs,h.id.size<=140737488355328)->Hid (Kh w)->Hid (StrAt w a pts)->Hid (zfS w b hs) ->
    Cl 59 #[.string seed,.slice a n cap,.slice b m cap2] w fun e w'=>∃v,e = .returned (.tuple #[.string (mkH seed pts hs),v,.int .i64 (mkE seed pts hs)])/\zsM w' v (mkS seed pts hs)/\Bw w w'
def zxb:Prop:=∀(p h:Ba) (w:Wo),Hid (p.size<=140737488355328)->Hid (h.size<=140737488355328)->Hid (Kh w) ->
    Cl 162 #[.string p,.string h] w fun e w'=>e = .returned (.tuple (plV p h))/\Bw w w'
theorem zkL (s:Ba) (l:List UInt8) (n:Nat):(hdk s l n).size=n:=by
  show (drv s.data.toList l n).toArray.size=n;unfold drv;simp[zbs]
def zba (n:Nat):Ba:=⟨(List.replicate n (0:UInt8)).toArray⟩
theorem zsi (n:Nat):(zba n).size=n:=by unfold zba;rw[zko,List.length_replicate]
theorem zsT (n:Nat):(zba n).data.toList=List.replicate n 0:=rfl
theorem zwF (k n:List UInt8) (c:UInt32) (m:Nat) (h:m<=240):(zqb k n c 240).take m=zqb k n c m:=by
  rw[<-ztF k n c 240 4 (by decide),List.take_take,Nat.min_eq_left h,ztF k n c m 4 (by omega)]
def hk6 (s:Ba):Value := .agg #[.string s,.string (hdk s zo9 32),.string (hdk s zr8 32),.string (hdk s zpa 32),.string (bld s),.string (hdk s zqe 16)]
def htn (s t:Ba):Ba:=⟨(za0 t.data.toList (zig s)).toArray⟩
theorem zxc (s t:Ba) (h:t.size<=240):(⟨(za0 t.data.toList (zqb (hdk s zo9 32).data.toList (zba 12).data.toList 0 t.size)).toArray⟩:Ba)=htn s t:=by
  unfold htn zig;rw[zun t.data.toList (zqb (drv s.data.toList zo9 32) (List.replicate 12 0) 0 240),zcg,zwF _ _ _ _ h];rfl
theorem zsU (s t:Ba) (h:t.size<=240):(htn s t).size=t.size:=by
  unfold htn;rw[zko,zaQ _ _ (by rw[zcg,zih];exact h),zcg]
def hmb (s l:Ba):Ba:=⟨(zbS s l.data.toList).toArray⟩
theorem zti (s l:Ba):(hmb s l).size=16:=by unfold hmb;rw[zko,zbc]
def Six (w:Wo) (g:Nat) (k0 k1 k2 k3 k4 k5:Ba):Prop :=
  (∀o,w.frozen? ⟨g,o,none⟩=false)/\w.cell? ⟨g,0,none⟩=some (.string k0)/\w.cell? ⟨g,1,none⟩=some (.string k1)/\w.cell? ⟨g,2,none⟩=some (.string k2)/\w.cell? ⟨g,3,none⟩=some (.string k3)/\w.cell? ⟨g,4,none⟩=some (.string k4)/\w.cell? ⟨g,5,none⟩=some (.string k5)
theorem Six.later {w w':Wo} {g:Nat} {k0 k1 k2 k3 k4 k5:Ba} (h:Six w g k0 k1 k2 k3 k4 k5) (hb:Bw w w'):Six w' g k0 k1 k2 k3 k4 k5:=by
  obtain⟨f,h0,h1,h2,h3,h4,h5⟩:=h;exact⟨fun o=>(zae hb (World.block_lt_of_cell? _ _ h0)).trans (f o),cell_later hb h0,cell_later hb h1,cell_later hb h2,cell_later hb h3,cell_later hb h4,cell_later hb h5⟩
theorem Six.lt {w:Wo} {g:Nat} {k0 k1 k2 k3 k4 k5:Ba} (h:Six w g k0 k1 k2 k3 k4 k5):g < w.heap.size:=World.block_lt_of_cell? _ _ h.2.1
theorem Six.new (w:Wo) (t:TypeId) (y0 y1 y2 y3 y4 y5:Ba):Six (w.alloc (.cells #[.string y0,.string y1,.string y2,.string y3,.string y4,.string y5] t)) w.heap.size y0 y1 y2 y3 y4 y5 :=
  ⟨fun o=>by simp[go_sem],by simp[go_sem],by simp[go_sem],by simp[go_sem],by simp[go_sem],by simp[go_sem],by simp[go_sem]⟩
theorem Six.set1 {w:Wo} {g:Nat} {k0 k1 k2 k3 k4 k5:Ba} (h:Six w g k0 k1 k2 k3 k4 k5) (x:Ba):Six (w.setCell ⟨g,1,none⟩ (.string x)) g k0 x k2 k3 k4 k5:=by
  obtain⟨f,h0,h1,h2,h3,h4,h5⟩:=h;refine⟨fun o=>by simp[go_sem,f],?_,?_,?_,?_,?_,?_⟩ <;> simp[go_sem,h0,h1,h2,h3,h4,h5]
theorem Six.set2 {w:Wo} {g:Nat} {k0 k1 k2 k3 k4 k5:Ba} (h:Six w g k0 k1 k2 k3 k4 k5) (x:Ba):Six (w.setCell ⟨g,2,none⟩ (.string x)) g k0 k1 x k3 k4 k5:=by
  obtain⟨f,h0,h1,h2,h3,h4,h5⟩:=h;refine⟨fun o=>by simp[go_sem,f],?_,?_,?_,?_,?_,?_⟩ <;> simp[go_sem,h0,h1,h2,h3,h4,h5]
theorem Six.set3 {w:Wo} {g:Nat} {k0 k1 k2 k3 k4 k5:Ba} (h:Six w g k0 k1 k2 k3 k4 k5) (x:Ba):Six (w.setCell ⟨g,3,none⟩ (.string x)) g k0 k1 k2 x k4 k5:=by
  obtain⟨f,h0,h1,h2,h3,h4,h5⟩:=h;refine⟨fun o=>by simp[go_sem,f],?_,?_,?_,?_,?_,?_⟩ <;> simp[go_sem,h0,h1,h2,h3,h4,h5]
theorem Six.set4 {w:Wo} {g:Nat} {k0 k1 k2 k3 k4 k5:Ba} (h:Six w g k0 k1 k2 k3 k4 k5) (x:Ba):Six (w.setCell ⟨g,4,none⟩ (.string x)) g k0 k1 k2 k3 x k5:=by
  obtain⟨f,h0,h1,h2,h3,h4,h5⟩:=h;refine⟨fun o=>by simp[go_sem,f],?_,?_,?_,?_,?_,?_⟩ <;> simp[go_sem,h0,h1,h2,h3,h4,h5]
theorem Six.set5 {w:Wo} {g:Nat} {k0 k1 k2 k3 k4 k5:Ba} (h:Six w g k0 k1 k2 k3 k4 k5) (x:Ba):Six (w.setCell ⟨g,5,none⟩ (.string x)) g k0 k1 k2 k3 k4 x:=by
  obtain⟨f,h0,h1,h2,h3,h4,h5⟩:=h;refine⟨fun o=>by simp[go_sem,f],?_,?_,?_,?_,?_,?_⟩ <;> simp[go_sem,h0,h1,h2,h3,h4,h5]
theorem Six.range {w:Wo} {b:Nat} {x0 x1 x2 x3 x4 x5:Ba} (h:Six w b x0 x1 x2 x3 x4 x5):w.rangeAt b 0 [.string x0,.string x1,.string x2,.string x3,.string x4,.string x5]:=by
  obtain⟨-,h0,h1,h2,h3,h4,h5⟩:=h;intro j v hv;rcases (by have:=(List.getElem?_eq_some_iff.1 hv).1;simp at this;omega:j=0\/j=1\/j=2\/j=3\/j=4\/j=5) with rfl|rfl|rfl|rfl|rfl|rfl
  . simp at hv;subst hv;simpa using h0
  . simp at hv;subst hv;simpa using h1
  . simp at hv;subst hv;simpa using h2
  . simp at hv;subst hv;simpa using h3
  . simp at hv;subst hv;simpa using h4
  . simp at hv;subst hv;simpa using h5
theorem Six.whole {w:Wo} {b:Nat} {x0 x1 x2 x3 x4 x5:Ba} (h:Six w b x0 x1 x2 x3 x4 x5) (y0 y1 y2 y3 y4 y5:Ba) :
    Six ((((((w.setCell ⟨b,0,none⟩ (.string y0)).setCell ⟨b,1,none⟩ (.string y1)).setCell ⟨b,2,none⟩ (.string y2)).setCell ⟨b,3,none⟩ (.string y3)).setCell ⟨b,4,none⟩ (.string y4)).setCell ⟨b,5,none⟩ (.string y5)) b y0 y1 y2 y3 y4 y5:=by
  obtain⟨f,h0,h1,h2,h3,h4,h5⟩:=h;refine⟨fun o=>by simp[go_sem,f],?_,?_,?_,?_,?_,?_⟩ <;> simp[go_sem,h0,h1,h2,h3,h4,h5]
theorem zts {B:Nat} {a w:Wo} (h:Below B a w) {c:Nat} (hc:B<=c) (y0 y1 y2 y3 y4 y5:Value) :
    Below B a ((((((w.setCell ⟨c,0,none⟩ y0).setCell ⟨c,1,none⟩ y1).setCell ⟨c,2,none⟩ y2).setCell ⟨c,3,none⟩ y3).setCell ⟨c,4,none⟩ y4).setCell ⟨c,5,none⟩ y5) :=
  (((((h.setCell (p:=⟨c,0,none⟩) hc _).setCell (p:=⟨c,1,none⟩) hc _).setCell (p:=⟨c,2,none⟩) hc _).setCell (p:=⟨c,3,none⟩) hc _).setCell (p:=⟨c,4,none⟩) hc _).setCell (p:=⟨c,5,none⟩) hc _
def Five (w:Wo) (g:Nat) (k0 k1 k2 k3 k4:Ba):Prop :=
  (∀o,w.frozen? ⟨g,o,none⟩=false)/\w.cell? ⟨g,0,none⟩=some (.string k0)/\w.cell? ⟨g,1,none⟩=some (.string k1)/\w.cell? ⟨g,2,none⟩=some (.string k2)/\w.cell? ⟨g,3,none⟩=some (.string k3)/\w.cell? ⟨g,4,none⟩=some (.string k4)
theorem Five.later {w w':Wo} {g:Nat} {k0 k1 k2 k3 k4:Ba} (h:Five w g k0 k1 k2 k3 k4) (hb:Bw w w'):Five w' g k0 k1 k2 k3 k4:=by
  obtain⟨f,h0,h1,h2,h3,h4⟩:=h;exact⟨fun o=>(zae hb (World.block_lt_of_cell? _ _ h0)).trans (f o),cell_later hb h0,cell_later hb h1,cell_later hb h2,cell_later hb h3,cell_later hb h4⟩
theorem Five.lt {w:Wo} {g:Nat} {k0 k1 k2 k3 k4:Ba} (h:Five w g k0 k1 k2 k3 k4):g < w.heap.size:=World.block_lt_of_cell? _ _ h.2.1
theorem Five.new (w:Wo) (t:TypeId) (y0 y1 y2 y3 y4:Ba):Five (w.alloc (.cells #[.string y0,.string y1,.string y2,.string y3,.string y4] t)) w.heap.size y0 y1 y2 y3 y4 :=
  ⟨fun o=>by simp[go_sem],by simp[go_sem],by simp[go_sem],by simp[go_sem],by simp[go_sem],by simp[go_sem]⟩
theorem Five.range {w:Wo} {b:Nat} {x0 x1 x2 x3 x4:Ba} (h:Five w b x0 x1 x2 x3 x4):w.rangeAt b 0 [.string x0,.string x1,.string x2,.string x3,.string x4]:=by
  obtain⟨-,h0,h1,h2,h3,h4⟩:=h;intro j v hv;rcases (by have:=(List.getElem?_eq_some_iff.1 hv).1;simp at this;omega:j=0\/j=1\/j=2\/j=3\/j=4) with rfl|rfl|rfl|rfl|rfl
  . simp at hv;subst hv;simpa using h0
  . simp at hv;subst hv;simpa using h1
  . simp at hv;subst hv;simpa using h2
  . simp at hv;subst hv;simpa using h3
  . simp at hv;subst hv;simpa using h4
theorem Five.whole {w:Wo} {b:Nat} {x0 x1 x2 x3 x4:Ba} (h:Five w b x0 x1 x2 x3 x4) (y0 y1 y2 y3 y4:Ba) :
    Five (((((w.setCell ⟨b,0,none⟩ (.string y0)).setCell ⟨b,1,none⟩ (.string y1)).setCell ⟨b,2,none⟩ (.string y2)).setCell ⟨b,3,none⟩ (.string y3)).setCell ⟨b,4,none⟩ (.string y4)) b y0 y1 y2 y3 y4:=by
  obtain⟨f,h0,h1,h2,h3,h4⟩:=h;refine⟨fun o=>by simp[go_sem,f],?_,?_,?_,?_,?_⟩ <;> simp[go_sem,h0,h1,h2,h3,h4]
theorem zs9 {B:Nat} {a w:Wo} (h:Below B a w) {c:Nat} (hc:B<=c) (y0 y1 y2 y3 y4:Value) :
    Below B a (((((w.setCell ⟨c,0,none⟩ y0).setCell ⟨c,1,none⟩ y1).setCell ⟨c,2,none⟩ y2).setCell ⟨c,3,none⟩ y3).setCell ⟨c,4,none⟩ y4) :=
  ((((h.setCell (p:=⟨c,0,none⟩) hc _).setCell (p:=⟨c,1,none⟩) hc _).setCell (p:=⟨c,2,none⟩) hc _).setCell (p:=⟨c,3,none⟩) hc _).setCell (p:=⟨c,4,none⟩) hc _
theorem zxd (ps:List Ba):(ps.all fun p=>p.size == 32)=Crv.wh ps:=rfl
end Go.Proofs.YtjcppbhgjchjaaaGreatDoor
namespace Go.Proofs.YtjcppbhgjchjaaaGreatDoor
open Go.RowKit Go.Proofs.Fd Go.Proofs.Hs Go.Proofs.Cc Go.Proofs.Hd Go.Proofs.Rt Go.Proofs.Wd
def bdy (s:Ba):Ba:=hdk s zpa 32
def rtg (s:Ba):Ba:=hdk s zqe 16
def pld:List Ba->List UInt8->List UInt8
  | [],t=>zfU t 256
  | s::r,t=>zmM (bdy s).data.toList (pld r t)
theorem znc (t:List UInt8):pld [] t=zfU t 256:=by rw[pld]
theorem zkM (s:Ba) (r:List Ba) (t:List UInt8):pld (s::r) t=zmM (bdy s).data.toList (pld r t):=by rw[pld]
theorem znd (ss:List Ba) (t:List UInt8) (h:t.length<=222):(pld ss t).length=256:=by
  induction ss with
  | nil=>rw[znc,zgJ _ _ (by omega)]
  | cons s r ih=>rw[zkM,zhY _ _ (by omega),ih]
abbrev zqX:=Except Int (Hp×Ba×Ba)
def hpl (p h:Ba):zqX :=
  if p.size=32/\h.size=248 then
    (if Crv.tm p (h.extract 0 32)=0 then .error 20
    else if zbS (Crv.ek (Crv.tm p (h.extract 0 32))) (h.data.toList.drop 48)=(h.data.toList.drop 32).take 16 then
      (match dcd ((zbd (Crv.ek (Crv.tm p (h.extract 0 32))) (h.data.toList.drop 48)).take 24) with
        | none => .error 70
        | some x => .ok (x,(if x.k=1 then ⟨((Crv.ek (Crv.tm (bld (Crv.ek (Crv.tm p (h.extract 0 32)))) (h.extract 0 32))).data.toList++(zbd (Crv.ek (Crv.tm p (h.extract 0 32))) (h.data.toList.drop 48)).drop 24).toArray⟩ else ⟨#[]⟩),(Crv.ek (Crv.tm p (h.extract 0 32)))))
    else .error 81)
  else .error 3
def h8V:zqX->Array Value
  | .error e=>#[hv zh,.string ⟨#[]⟩,kz,.int .i64 e]
  | .ok (x,n,s)=>#[hv x,.string n,kv s,.int .i64 0]
theorem zne (p h:Ba):plV p h=h8V (hpl p h):=by
  unfold plV hpl;by_cases q1:p.size=32/\h.size=248
  . rw[if_pos q1,if_pos q1]
    by_cases q2:Crv.tm p (h.extract 0 32)=0
    . rw[if_pos q2,if_pos q2,h8V]
    . rw[if_neg q2,if_neg q2]
      by_cases q3:zbS (Crv.ek (Crv.tm p (h.extract 0 32))) (h.data.toList.drop 48)=(h.data.toList.drop 32).take 16
      . rw[if_pos q3,if_pos q3]
        cases dcd ((zbd (Crv.ek (Crv.tm p (h.extract 0 32))) (h.data.toList.drop 48)).take 24) with
        | none=>simp only[h8V]
        | some x=>simp only[h8V]
      . rw[if_neg q3,if_neg q3,h8V]
  . rw[if_neg q1,if_neg q1,h8V]
theorem zpc {a:zqX} {x:Hp} {n s:Ba} (h:h8V a=#[hv x,.string n,kv s,.int .i64 0]) (hk:∀e:Int,a ≠ .error e):∃s',a = .ok (x,n,s')/\kv s'=kv s:=by
  cases a with
  | error e=>exact absurd rfl (hk e)
  | ok v =>
    obtain⟨y,m,s'⟩:=v;simp only[h8V] at h;have h':=congrArg Array.toList h;simp only[List.cons.injEq] at h';obtain⟨h1,h2,h3,-⟩:=h';have e1:y=x:=by
      obtain⟨a1,a2,a3,a4,a5⟩:=y;obtain⟨b1,b2,b3,b4,b5⟩:=x;unfold hv at h1;simp at h1;obtain⟨rfl,rfl,rfl,rfl,rfl⟩:=h1;rfl
    have e2:m=n:=by simpa using h2
    subst e1 e2;exact⟨s',rfl,h3⟩
def pdv (x:Hp) (n t s:Ba):Value := .agg #[.int .i64 x.k,.int .i64 x.n,.int .i64 x.u,.int .i64 x.d,.string x.id,.string n,.string t,.string s]
def pdz:Value:=pdv zh ⟨#[]⟩ ⟨#[]⟩ ⟨#[]⟩
def ppV (p b:Ba):Array Value :=
  if b.size=504 then (match hpl p (b.extract 0 248) with
    | .error e=>#[pdz,.int .i64 e]
    | .ok (x,n,s)=>if x.k=1 then #[pdv x ⟨(n.data.toList++zb4 (bdy s).data.toList (b.data.toList.drop 248)).toArray⟩ (rtg s) ⟨#[]⟩,.int .i64 0]
      else (match zgK (zb4 (bdy s).data.toList (b.data.toList.drop 248)) with
        | none=>#[pdz,.int .i64 90]
        | some t=>#[pdv x ⟨#[]⟩ (rtg s) ⟨t.toArray⟩,.int .i64 0]))
  else #[pdz,.int .i64 3]
theorem zpd (p:Ba) (h:Ba) (B:List UInt8) (x:Hp) (n s:Ba) (zh':h.size=248) (zB:B.length=256) (he:hpl p h = .ok (x,n,s)) :
    ppV p ⟨(h.data.toList++B).toArray⟩=if x.k=1 then #[pdv x ⟨(n.data.toList++zb4 (bdy s).data.toList B).toArray⟩ (rtg s) ⟨#[]⟩,.int .i64 0]
      else (match zgK (zb4 (bdy s).data.toList B) with
        | none=>#[pdz,.int .i64 90]
        | some t=>#[pdv x ⟨#[]⟩ (rtg s) ⟨t.toArray⟩,.int .i64 0]):=by
  have e1:(⟨(h.data.toList++B).toArray⟩:Ba).extract 0 248=h:=by
    apply ByteArray.ext;apply Array.toList_inj.1;rw[zoU,List.drop_zero,List.take_append_of_le_length (by rw[zcg];omega),List.take_of_length_le (by rw[zcg];omega)]
  have e2:(⟨(h.data.toList++B).toArray⟩:Ba).data.toList.drop 248=B:=by
    show (h.data.toList++B).drop 248=B;rw[List.drop_append_of_le_length (by rw[zcg];omega),List.drop_of_length_le (by rw[zcg];omega),List.nil_append]
  have z:(⟨(h.data.toList++B).toArray⟩:Ba).size=504:=by rw[zko,List.length_append,zcg,zh',zB]
  unfold ppV;rw[if_pos z,e1,he,e2]
end Go.Proofs.YtjcppbhgjchjaaaGreatDoor
namespace Go.Proofs.Dk
abbrev Bs:=List UInt8
structure Wt where
  k:Nat
  b:Bs
def upd (f:Nat->Bs) (k:Nat) (b:Bs):Nat->Bs:=fun j=>if j=k then b else f j
theorem upd_same (f:Nat->Bs) (k:Nat) (b:Bs):upd f k b k=b:=if_pos rfl
theorem upd_other (f:Nat->Bs) {k j:Nat} (b:Bs) (h:j≠k):upd f k b j=f j:=if_neg h
theorem zkN (f:Nat->Bs) (k:Nat):upd f k (f k)=f:=by
  funext j;unfold upd
  split
  . rename_i e
    rw[e]
  . rfl
def lay:(Nat->Bs)->List Wt->(Nat->Bs)
  | f,[]=>f
  | f,x::l=>lay (upd f x.k x.b) l
theorem zdl:∀(l:List Wt) (f:Nat->Bs) (x:Wt),lay f (l++[x])=upd (lay f l) x.k x.b
  | [],_,_=>rfl
  | y::l,f,x=>by rw[List.cons_append,lay,zdl l,lay]
def pk (x:Int):Nat:=((x.tmod 65+65).tmod 65).toNat
theorem znf (x:Int):pk x < 65:=by
  have:=Int.tmod_lt_of_pos (x.tmod 65+65) (show (0:Int) < 65 by decide);unfold pk;omega
theorem zqY (x:Int):(x.tmod 65+65).tmod 65=(pk x:Int):=by
  have h1:=Int.lt_tmod_of_pos x (show (0:Int) < 65 by decide);have:=Int.tmod_nonneg 65 (show 0<=x.tmod 65+65 by omega);unfold pk;omega
def zon (ps:List Int) (i:Nat):Nat:=if h:i < ps.length then pk ps[i] else 0
theorem zng (ps:List Int) (i:Nat):zon ps i < 65:=by
  unfold zon
  split
  . exact znf _
  . decide
def mix (p:Nat) (new old:Bs):Bs:=new.take p++old.drop p
theorem znh {p:Nat} {a b:Bs} (hp:p < 65) (ha:a.length=64) (hb:b.length=64):(mix p a b).length=64:=by
  unfold mix;rw[List.length_append,List.length_take,List.length_drop];omega
theorem zkO (a b:Bs):mix 0 a b=b:=by simp[mix]
def zgO (ps:List Int):(Nat->Bs)->List Wt->Nat->(Nat->Bs)
  | f,[],_=>f
  | f,x::l,i=>zgO ps (upd f x.k (mix (zon ps i) x.b (f x.k))) l (i+1)
structure St where
  n:Nat
  f:Nat->Bs
  l:List Wt
  fuse:Nat
  down:Bool
def St.init (n:Nat):St:=⟨n,fun _=>List.replicate 64 0,[],0,false⟩
def St.sh (s:St):Nat->Bs:=lay s.f s.l
structure Ok (s:St):Prop where
  n1:1<=s.n
  n2:s.n<=1024
  f64:∀k,(s.f k).length=64
  wk:∀x∈s.l,x.k < s.n/\x.b.length=64
  fu:s.fuse<=1048576
theorem Ok.init {n:Nat} (h1:1<=n) (h2:n<=1024):Ok (St.init n):=⟨h1,h2,fun _=>by simp[St.init],nofun,Nat.zero_le _⟩
theorem zil {f:Nat->Bs} (hf:∀k,(f k).length=64) (k:Nat) {b:Bs} (hb:b.length=64):∀j,(upd f k b j).length=64:=fun j=>by
  unfold upd
  split
  . exact hb
  . exact hf j
theorem zlV:∀(l:List Wt) (f:Nat->Bs),(∀k,(f k).length=64)->(∀x∈l,x.b.length=64)->∀k,(lay f l k).length=64
  | [],_,hf,_=>hf
  | x::l,_,hf,hl=>zlV l _ (zil hf _ (hl x (List.mem_cons_self ..))) (fun y hy=>hl y (List.mem_cons_of_mem _ hy))
theorem zim (ps:List Int):∀(l:List Wt) (f:Nat->Bs) (i:Nat),(∀k,(f k).length=64)->(∀x∈l,x.b.length=64)->∀k,(zgO ps f l i k).length=64
  | [],_,_,hf,_=>hf
  | x::l,_,i,hf,hl=>zim ps l _ _ (zil hf _ (znh (zng ps i) (hl x (List.mem_cons_self ..)) (hf _))) (fun y hy=>hl y (List.mem_cons_of_mem _ hy))
theorem Ok.sh64 {s:St} (h:Ok s):∀k,(s.sh k).length=64:=zlV _ _ h.f64 (fun x hx=>(h.wk x hx).2)
def zaR (s:St):St:={ s with fuse:=s.fuse - 1,down:=decide (s.fuse=1) }
def rch (s:St) (k:Int):Int:=if s.down=true then 150 else if k < 0\/(s.n:Int)<=k then 1 else 0
def rdV (s:St) (k:Int):Bs:=if rch s k=0 then s.sh k.toNat else []
def wrE (s:St) (k:Int) (t:Bs):Int:=if rch s k≠0 then rch s k else if t.length≠64 then 3 else if s.fuse=1 then 150 else 0
def wrS (s:St) (k:Int) (t:Bs):St:=if rch s k≠0 then s else if t.length≠64 then s else if s.fuse=1 then zaR s else { zaR s with l:=s.l++[⟨k.toNat,t⟩] }
def syE (s:St):Int:=if s.down=true then 150 else if s.fuse=1 then 150 else 0
def syS (s:St):St:=if s.down=true then s else if s.fuse=1 then zaR s else { zaR s with f:=s.sh,l:=[] }
def crS (s:St) (ps:List Int):St:={ s with f:=zgO ps s.f s.l 0,l:=[],fuse:=0,down:=false }
theorem Ok.brn {s:St} (h:Ok s):Ok (zaR s):=⟨h.n1,h.n2,h.f64,h.wk,by have:=h.fu;show s.fuse - 1<=_;omega⟩
theorem Ok.wr {s:St} (h:Ok s) (k:Int) (t:Bs):Ok (wrS s k t):=by
  unfold wrS
  split
  . exact h
  . rename_i hr
    split
    . exact h
    . rename_i ht
      split
      . exact h.brn
      . refine⟨h.n1,h.n2,h.f64,fun x hx => ?_,h.brn.fu⟩
        rcases List.mem_append.1 hx with hx|hx
        . exact h.wk x hx
        . rw[List.mem_singleton] at hx
          subst hx;refine⟨?_,by simpa using ht⟩;unfold rch at hr
          split at hr
          . simp at hr
          . split at hr
            . simp at hr
            . show k.toNat < s.n
              omega
theorem Ok.cr {s:St} (h:Ok s) (ps:List Int):Ok (crS s ps):=⟨h.n1,h.n2,zim ps _ _ _ h.f64 (fun x hx=>(h.wk x hx).2),nofun,Nat.zero_le _⟩
theorem zf2:∀(l:List Wt) (f:Nat->Bs) (j:Nat),(∀x∈l,x.k≠j)->lay f l j=f j
  | [],_,_,_=>rfl
  | x::l,f,j,h=>by rw[lay,zf2 l _ j (fun y hy=>h y (List.mem_cons_of_mem _ hy)),upd_other _ _ (Ne.symm (h x (List.mem_cons_self ..)))]
theorem zed (ps:List Int):∀(l:List Wt) (f:Nat->Bs) (i j:Nat),(∀x∈l,x.k≠j)->zgO ps f l i j=f j
  | [],_,_,_,_=>rfl
  | x::l,f,i,j,h=>by rw[zgO,zed ps l _ _ j (fun y hy=>h y (List.mem_cons_of_mem _ hy)),upd_other _ _ (Ne.symm (h x (List.mem_cons_self ..)))]
def shw (g:Nat->Bs):(Nat->Bs)->List Wt->(Nat->Bs)
  | f,[]=>f
  | f,x::l=>shw g (upd f x.k (g x.k)) l
theorem zin (g:Nat->Bs):∀(l:List Wt) (f:Nat->Bs),(∀j,(∀x∈l,x.k≠j)->f j=g j)->shw g f l=g
  | [],f,h=>funext fun j=>h j nofun
  | x::l,f,h=>by
    rw[shw];refine zin g l _ (fun j hj => ?_);by_cases e:j=x.k
    . subst e
      rw[upd_same]
    . rw[upd_other _ _ e]
      exact h j (fun y hy=>by
        rcases List.mem_cons.1 hy with rfl|hy
        . exact Ne.symm e
        . exact hj y hy)
theorem zio (s:St) (ps:List Int):shw (zgO ps s.f s.l 0) s.sh s.l=zgO ps s.f s.l 0 :=
  zin _ _ _ (fun j hj=>by rw[zed _ _ _ _ _ hj];exact zf2 _ _ _ hj)
end Go.Proofs.Dk
namespace Go.Proofs.YtjcppbhgjchjaaaGreatDoor.Sto
open Go.RowKit Go.Proofs.Fd Go.Proofs.Dk
def bc (l:Bs):List Value:=l.map fun x => .int .u8 (x.toNat:Int)
theorem zaK (l:Bs):(bc l).length=l.length:=List.length_map ..
theorem zf3 (l:Bs):∀u∈bc l,u.oneCell'=true:=fun u h=>by
  obtain⟨x,-,rfl⟩:=List.mem_map.1 h;rfl
theorem zpe (l m:Bs):bc (l++m)=bc l++bc m:=List.map_append ..
def wc (x:Wt):List Value := .int .i64 (x.k:Int)::bc x.b
def wcs:List Wt->List Value
  | []=>[]
  | x::l=>wc x++wcs l
theorem zip:∀l m:List Wt,wcs (l++m)=wcs l++wcs m
  | [],_=>rfl
  | t::l,m=>by rw[List.cons_append,wcs,zip l m,wcs,List.append_assoc]
theorem zbF {x:Wt} (h:x.b.length=64):(wc x).length=65:=by rw[wc,List.length_cons,zaK,h]
theorem ze5:∀(l:List Wt),∀u∈wcs l,u.oneCell'=true
  | [],u,h=>by cases h
  | t::l,u,h=>by
    rw[wcs,List.mem_append] at h;rcases h with h|h
    . rcases List.mem_cons.1 h with rfl|h
      . rfl
      . exact zf3 _ u h
    . exact ze5 l u h
theorem zlW:∀(l:List Wt),(∀x∈l,x.b.length=64)->∀(i:Nat) (hi:i < l.length) (j:Nat),j < 65->(wcs l)[i*65+j]?=(wc l[i])[j]?
  | [],_,i,hi,_,_=>absurd hi (Nat.not_lt_zero _)
  | t::l,h,0,_,j,hj=>by
    rw[wcs,Nat.zero_mul,Nat.zero_add,List.getElem?_append_left (by rw[zbF (h t (List.mem_cons_self ..))];exact hj)];rfl
  | t::l,h,i+1,hi,j,hj=>by
    have ih:=zlW l (fun y hy=>h y (List.mem_cons_of_mem _ hy)) i (by simpa using hi) j hj;rw[wcs,List.getElem?_append_right (by rw[zbF (h t (List.mem_cons_self ..))];omega),zbF (h t (List.mem_cons_self ..)),show (i+1)*65+j - 65=i*65+j by omega];exact ih
structure Bf (F:Nat->Prop) (w w':Wo):Prop where
  os:w'.os=w.os
  tape:w'.tape=w.tape
  output:w'.output=w.output
  size:w.heap.size<=w'.heap.size
  block:∀g,g < w.heap.size->¬F g->w'.heap[g]?=w.heap[g]?
theorem Bf.refl (F:Nat->Prop) (w:Wo):Bf F w w:=⟨rfl,rfl,rfl,nL _,fun _ _ _=>rfl⟩
theorem Bf.of {F:Nat->Prop} {w w':Wo} (h:Bw w w'):Bf F w w':=⟨h.os,h.tape,h.output,h.size,fun g hg _=>h.block g hg⟩
theorem Bf.below {F:Nat->Prop} {B:Nat} {w w':Wo} (h:Bf F w w') (hF:∀g,F g->B<=g) (hB:B<=w.heap.size):Below B w w' :=
  ⟨h.os,h.tape,h.output,h.size,fun g hg=>h.block g (Nat.lt_of_lt_of_le hg hB) (fun c=>absurd (hF g c) (Nat.not_le.2 hg))⟩
theorem Bf.grown {F:Nat->Prop} {row:Option Nat} {w w':Wo} (k:w.grownBy w' row) (hr:∀g,row=some g->F g\/w.heap.size<=g):Bf F w w' :=
  ⟨k.os,k.tape,k.output,k.size,fun g hg hF=>k.block g hg (fun e=>by rcases hr g e.symm with h|h;exact hF h;omega)⟩
def Nx (w:Wo) (F F':Nat->Prop):Prop:=∀g,F' g->F g\/w.heap.size<=g
theorem Nx.refl (w:Wo) (F:Nat->Prop):Nx w F F:=fun _ h => .inl h
theorem Nx.trans {w w':Wo} {F F' F'':Nat->Prop} (h:Nx w F F') (k:Nx w' F' F'') (hs:w.heap.size<=w'.heap.size):Nx w F F'':=fun g hg=>by
  rcases k g hg with h1|h1
  . exact h g h1
  . exact .inr (Nat.le_trans hs h1)
theorem Bf.trans {F F':Nat->Prop} {a b c:Wo} (h:Bf F a b) (n:Nx a F F') (k:Bf F' b c):Bf F a c :=
  ⟨k.os.trans h.os,k.tape.trans h.tape,k.output.trans h.output,Nat.le_trans h.size k.size,fun g hg hF=>(k.block g (Nat.lt_of_lt_of_le hg h.size) (fun c=>by rcases n g c with h1|h1;exact hF h1;omega)).trans (h.block g hg hF)⟩
theorem Bf.later {F:Nat->Prop} {a b c:Wo} (h:Bf F a b) (k:Bw b c):Bf F a c:=h.trans (Nx.refl _ _) (Bf.of k)
theorem Bf.cell {F:Nat->Prop} {w w':Wo} (h:Bf F w w') {a:Addr} {v:Value} (hc:w.cell? a=some v) (hF:¬F a.block):w'.cell? a=some v :=
  (World.cell?_of_block (h.block a.block (World.block_lt_of_cell? _ _ hc) hF)).trans hc
theorem Bf.set (F:Nat->Prop) (w:Wo) (b o:Nat) (v:Value) (h:F b):Bf F w (w.setCell ⟨b,o,none⟩ v):=⟨rfl,rfl,rfl,by simp,fun g _ hF=>Below.heap_setCell w ⟨b,o,none⟩ v g (fun e=>hF (by rw[e];exact h))⟩
theorem Bf.sets (F:Nat->Prop) (b:Nat) (h:F b):∀(vs:List Value) (o:Nat) (w:Wo),Bf F w (w.setCells b o vs)
  | [],_,w=>Bf.refl F w
  | v::vs,o,w=>by
    rw[World.setCells];exact (Bf.set F w b o v h).trans (Nx.refl _ _) (Bf.sets F b h vs _ _)
theorem ownsRow_same {w w':Wo} {e:TypeId} {size n:Nat} {v:Value} {xs:List Value} (h:w.ownsRow 0 e size v n xs) (hs:∀g,v.ownBlock=some g->w'.heap[g]?=w.heap[g]?):w'.ownsRow 0 e size v n xs:=by
  refine⟨h.1,?_⟩;rcases h.2 with h1|⟨g,cap,cur,rfl,h2,h3,h4⟩
  . exact .inl h1
  . exact .inr ⟨g,cap,cur,rfl,h2,(hs g rfl).trans h3,h4⟩
structure Sec (w:Wo) (a n:Nat) (f:Nat->Bs):Prop where
  at_:∀k,k < n->w.rangeAt a (k*64) (bc (f k))
  th:w.there a 0 (n*64)
  l64:∀k,(f k).length=64
theorem zbf {w w':Wo} {b o:Nat} {cs:List Value} (h:w.rangeAt b o cs) (hs:w'.heap[b]?=w.heap[b]?):w'.rangeAt b o cs:=fun j v hv=>(World.cell?_of_block (a:=⟨b,o+j,none⟩) hs).trans (h j v hv)
theorem zgP {w w':Wo} {b o n:Nat} (h:w.there b o n) (hs:w'.heap[b]?=w.heap[b]?):w'.there b o n:=fun j hj=>⟨by rw[World.cell?_of_block (a:=⟨b,o+j,none⟩) hs];exact (h j hj).1,(World.frozen?_of_block (a:=⟨b,o+j,none⟩) hs).trans (h j hj).2⟩
theorem Sec.same {w w':Wo} {a n:Nat} {f:Nat->Bs} (h:Sec w a n f) (hs:w'.heap[a]?=w.heap[a]?):Sec w' a n f:=⟨fun k hk=>zbf (h.at_ k hk) hs,zgP h.th hs,h.l64⟩
theorem Sec.there {w:Wo} {a n:Nat} {f:Nat->Bs} (h:Sec w a n f) {k:Nat} (hk:k < n):w.there a (k*64) 64:=fun j hj=>by
  have:=h.th (k*64+j) (by omega);rw[Nat.zero_add] at this;exact this
theorem Sec.lt {w:Wo} {a n:Nat} {f:Nat->Bs} (h:Sec w a n f) (hn:1<=n):a < w.heap.size:=by
  obtain⟨u,hu⟩:=Option.isSome_iff_exists.1 (h.th 0 (by omega)).1;exact World.block_lt_of_cell? _ _ hu
theorem Sec.put {w:Wo} {a n:Nat} {f:Nat->Bs} (h:Sec w a n f) {k:Nat} (hk:k < n) (xs:Bs) (hx:xs.length<=64):Sec (w.setCells a (k*64) (bc xs)) a n (upd f k (xs++(f k).drop xs.length)):=by
  refine⟨fun j hj => ?_,World.there_setCells h.th _ _ _,zil h.l64 _ (by rw[List.length_append,List.length_drop,h.l64];omega)⟩;by_cases e:j=k
  . subst e
    rw[upd_same,zpe];intro i v hv;by_cases hi:i < xs.length
    . rw[List.getElem?_append_left (by rw[zaK];exact hi)] at hv
      exact World.rangeAt_setCells_same w a (j*64) (bc xs) (fun q hq=>h.there hj q (by rw[zaK] at hq;omega)) i v hv
    . rw[List.getElem?_append_right (by rw[zaK];omega),zaK] at hv
      rw[World.cell?_setCells_out a _ _ w _ (fun _ _ => .inr (by rw[zaK];show j*64+xs.length<=j*64+i;omega))];refine h.at_ j hj i v ?_;unfold bc at hv ⊢;rw[List.getElem?_map,List.getElem?_drop,show xs.length+(i - xs.length)=i by omega] at hv;rw[List.getElem?_map];exact hv
  . rw[upd_other _ _ e]
    refine World.rangeAt_setCells_apart (h.at_ j hj) _ _ _ (.inr ?_);rw[zaK,zaK,h.l64];omega
theorem Sec.whole {w:Wo} {a n:Nat} {f:Nat->Bs} (h:Sec w a n f) {k:Nat} (hk:k < n) {xs:Bs} (hx:xs.length=64):Sec (w.setCells a (k*64) (bc xs)) a n (upd f k xs):=by
  have:=h.put hk xs (by omega);rw[List.drop_of_length_le (by rw[h.l64];omega),List.append_nil] at this;exact this
theorem zac (w:Wo) (a o:Nat) (vs:List Value) (g:Nat) (hg:g≠a):(w.setCells a o vs).heap[g]?=w.heap[g]?:=by
  induction vs generalizing w o with
  | nil=>rfl
  | cons v vs ih =>
    rw[World.setCells,ih,Below.heap_setCell w ⟨a,o,none⟩ v g hg]
abbrev zdm (w:Wo) (v:Value) (l:List Wt):Prop:=w.ownsRow 0 120 65 v l.length (wcs l)
structure Raw (w:Wo) (p n:Nat) (dn:Bool) (fu:Nat) (fa fb:Nat->Bs) (l:List Wt) (a b:Nat) (v:Value):Prop where
  c0:w.cell? ⟨p,0,none⟩=some (.int .i64 (if dn=true then 1 else 0))
  c1:w.cell? ⟨p,1,none⟩=some (.int .i64 (fu:Int))
  c2:w.cell? ⟨p,2,none⟩=some (.slice (some ⟨a,0,none⟩) n n)
  c3:w.cell? ⟨p,3,none⟩=some (.slice (some ⟨b,0,none⟩) n n)
  c4:w.cell? ⟨p,4,none⟩=some v
  fr:∀o,w.frozen? ⟨p,o,none⟩=false
  sa:Sec w a n fa
  sb:Sec w b n fb
  row:zdm w v l
  pa:a≠p
  pb:b≠p
  ab:a≠b
  pv:v.ownBlock≠some p
  av:v.ownBlock≠some a
  bv:v.ownBlock≠some b
  n1:1<=n
def Foot (p a b:Nat) (v:Value) (g:Nat):Prop:=g=p\/g=a\/g=b\/v.ownBlock=some g
section
variable {w:Wo} {p n:Nat} {dn:Bool} {fu:Nat} {fa fb:Nat->Bs} {l:List Wt} {a b:Nat} {v:Value}
theorem Raw.lt (h:Raw w p n dn fu fa fb l a b v) {g:Nat} (hg:Foot p a b v g):g < w.heap.size:=by
  rcases hg with rfl|rfl|rfl|e
  . exact World.block_lt_of_cell? _ _ h.c0
  . exact h.sa.lt h.n1
  . exact h.sb.lt h.n1
  . exact (h.row.lt g e).2
theorem Raw.same (h:Raw w p n dn fu fa fb l a b v) {w':Wo} (hs:∀g,Foot p a b v g->w'.heap[g]?=w.heap[g]?):Raw w' p n dn fu fa fb l a b v:=by
  have hp:w'.heap[p]?=w.heap[p]?:=hs p (.inl rfl);have cp:∀(o:Nat),w'.cell? ⟨p,o,none⟩=w.cell? ⟨p,o,none⟩:=fun o=>World.cell?_of_block (a:=⟨p,o,none⟩) hp
  exact⟨(cp 0).trans h.c0,(cp 1).trans h.c1,(cp 2).trans h.c2,(cp 3).trans h.c3,(cp 4).trans h.c4,fun o=>(World.frozen?_of_block (a:=⟨p,o,none⟩) hp).trans (h.fr o),h.sa.same (hs a (.inr (.inl rfl))),h.sb.same (hs b (.inr (.inr (.inl rfl)))),
    ownsRow_same h.row (fun g e=>hs g (.inr (.inr (.inr e)))),h.pa,h.pb,h.ab,h.pv,h.av,h.bv,h.n1⟩
theorem Raw.later (h:Raw w p n dn fu fa fb l a b v) {w':Wo} (hb:Bw w w'):Raw w' p n dn fu fa fb l a b v:=h.same fun g hg=>hb.block g (h.lt hg)
theorem Raw.other (h:Raw w p n dn fu fa fb l a b v) {F:Nat->Prop} {w':Wo} (hb:Bf F w w') (hF:∀g,Foot p a b v g->¬F g):Raw w' p n dn fu fa fb l a b v:=h.same fun g hg=>hb.block g (h.lt hg) (hF g hg)
theorem Raw.putA (h:Raw w p n dn fu fa fb l a b v) {k:Nat} (hk:k < n) (xs:Bs) (hx:xs.length<=64):Raw (w.setCells a (k*64) (bc xs)) p n dn fu (upd fa k (xs++(fa k).drop xs.length)) fb l a b v:=by
  have bo:∀g,g≠a->(w.setCells a (k*64) (bc xs)).heap[g]?=w.heap[g]?:=fun g hg=>zac w a _ _ g hg
  have hp:=bo p (Ne.symm h.pa);have cp:∀(o:Nat),(w.setCells a (k*64) (bc xs)).cell? ⟨p,o,none⟩=w.cell? ⟨p,o,none⟩:=fun o=>World.cell?_of_block (a:=⟨p,o,none⟩) hp
  exact⟨(cp 0).trans h.c0,(cp 1).trans h.c1,(cp 2).trans h.c2,(cp 3).trans h.c3,(cp 4).trans h.c4,fun o=>(World.frozen?_of_block (a:=⟨p,o,none⟩) hp).trans (h.fr o),h.sa.put hk xs hx,h.sb.same (bo b (Ne.symm h.ab)),
    ownsRow_same h.row (fun g e=>bo g (fun c=>h.av (by rw[e,c]))),h.pa,h.pb,h.ab,h.pv,h.av,h.bv,h.n1⟩
theorem Raw.putB (h:Raw w p n dn fu fa fb l a b v) {k:Nat} (hk:k < n) (xs:Bs) (hx:xs.length<=64):Raw (w.setCells b (k*64) (bc xs)) p n dn fu fa (upd fb k (xs++(fb k).drop xs.length)) l a b v:=by
  have bo:∀g,g≠b->(w.setCells b (k*64) (bc xs)).heap[g]?=w.heap[g]?:=fun g hg=>zac w b _ _ g hg
  have hp:=bo p (Ne.symm h.pb);have cp:∀(o:Nat),(w.setCells b (k*64) (bc xs)).cell? ⟨p,o,none⟩=w.cell? ⟨p,o,none⟩:=fun o=>World.cell?_of_block (a:=⟨p,o,none⟩) hp
  exact⟨(cp 0).trans h.c0,(cp 1).trans h.c1,(cp 2).trans h.c2,(cp 3).trans h.c3,(cp 4).trans h.c4,fun o=>(World.frozen?_of_block (a:=⟨p,o,none⟩) hp).trans (h.fr o),h.sa.same (bo a h.ab),h.sb.put hk xs hx,
    ownsRow_same h.row (fun g e=>bo g (fun c=>h.bv (by rw[e,c]))),h.pa,h.pb,h.ab,h.pv,h.av,h.bv,h.n1⟩
theorem Raw.wholeA (h:Raw w p n dn fu fa fb l a b v) {k:Nat} (hk:k < n) {xs:Bs} (hx:xs.length=64):Raw (w.setCells a (k*64) (bc xs)) p n dn fu (upd fa k xs) fb l a b v:=by
  have:=h.putA hk xs (by omega);rw[List.drop_of_length_le (by rw[h.sa.l64];omega),List.append_nil] at this;exact this
theorem Raw.wholeB (h:Raw w p n dn fu fa fb l a b v) {k:Nat} (hk:k < n) {xs:Bs} (hx:xs.length=64):Raw (w.setCells b (k*64) (bc xs)) p n dn fu fa (upd fb k xs) l a b v:=by
  have:=h.putB hk xs (by omega);rw[List.drop_of_length_le (by rw[h.sb.l64];omega),List.append_nil] at this;exact this
theorem zbT (w:Wo) (p i:Nat) (u x:Value) (hx:w.cell? ⟨p,i,none⟩=some x):(w.setCell ⟨p,i,none⟩ u).cell? ⟨p,i,none⟩=some u/\(∀o y,o≠i->w.cell? ⟨p,o,none⟩=some y->(w.setCell ⟨p,i,none⟩ u).cell? ⟨p,o,none⟩=some y)/\(∀g,g≠p->(w.setCell ⟨p,i,none⟩ u).heap[g]?=w.heap[g]?)/\(∀o,(w.setCell ⟨p,i,none⟩ u).frozen? ⟨p,o,none⟩=w.frozen? ⟨p,o,none⟩) :=
  ⟨by rw[World.cell?_setCell_same _ _ _ (by rw[hx])],fun o y ho hc=>by rw[World.cell?_setCell_other _ _ _ _ (fun q=>ho (by injection q with q1 q2 q3;exact q2.symm)),hc],fun g hg=>Below.heap_setCell w ⟨p,i,none⟩ u g hg,fun o=>by rw[World.frozen?_setCell]⟩
theorem Raw.setDown (h:Raw w p n dn fu fa fb l a b v) (d:Bool):Raw (w.setCell ⟨p,0,none⟩ (.int .i64 (if d=true then 1 else 0))) p n d fu fa fb l a b v:=by
  obtain⟨s0,co,bo,fo⟩:=zbT w p 0 (.int .i64 (if d=true then 1 else 0)) _ h.c0;exact⟨s0,co 1 _ (by decide) h.c1,co 2 _ (by decide) h.c2,co 3 _ (by decide) h.c3,co 4 _ (by decide) h.c4,fun o=>(fo o).trans (h.fr o),h.sa.same (bo a h.pa),h.sb.same (bo b h.pb),ownsRow_same h.row (fun g e=>bo g (fun c=>h.pv (by rw[e,c]))),h.pa,h.pb,h.ab,h.pv,h.av,h.bv,h.n1⟩
theorem Raw.setFuse (h:Raw w p n dn fu fa fb l a b v) (m:Nat):Raw (w.setCell ⟨p,1,none⟩ (.int .i64 (m:Int))) p n dn m fa fb l a b v:=by
  obtain⟨s0,co,bo,fo⟩:=zbT w p 1 (.int .i64 (m:Int)) _ h.c1;exact⟨co 0 _ (by decide) h.c0,s0,co 2 _ (by decide) h.c2,co 3 _ (by decide) h.c3,co 4 _ (by decide) h.c4,fun o=>(fo o).trans (h.fr o),h.sa.same (bo a h.pa),h.sb.same (bo b h.pb),ownsRow_same h.row (fun g e=>bo g (fun c=>h.pv (by rw[e,c]))),h.pa,h.pb,h.ab,h.pv,h.av,h.bv,h.n1⟩
theorem Raw.setRow (h:Raw w p n dn fu fa fb l a b v) {w1:Wo} (hg:w.grownBy w1 v.ownBlock) {u:Value} {m:List Wt} (ho:zdm w1 u m) (hl:∀g,u.ownBlock=some g->v.ownBlock=some g\/w.heap.size<=g) :
    Raw (w1.setCell ⟨p,4,none⟩ u) p n dn fu fa fb m a b u/\Nx w (Foot p a b v) (Foot p a b u)/\Bf (Foot p a b v) w (w1.setCell ⟨p,4,none⟩ u):=by
  have hs:∀g,g=p\/g=a\/g=b->w1.heap[g]?=w.heap[g]?:=fun g hF=>hg.block g (h.lt (by rcases hF with e|e|e;exact .inl e;exact .inr (.inl e);exact .inr (.inr (.inl e)))) (fun e=>by
    rcases hF with rfl|rfl|rfl
    . exact h.pv e.symm
    . exact h.av e.symm
    . exact h.bv e.symm)
  have cp:∀(o:Nat),w1.cell? ⟨p,o,none⟩=w.cell? ⟨p,o,none⟩:=fun o=>World.cell?_of_block (a:=⟨p,o,none⟩) (hs p (.inl rfl))
  obtain⟨s0,co,bo,fo⟩:=zbT w1 p 4 u _ ((cp 4).trans h.c4);have nw:∀g,u.ownBlock=some g->(g=p\/g=a\/g=b)->False:=fun g e c=>by
    rcases hl g e with h1|h1
    . rcases c with rfl|rfl|rfl
      . exact h.pv h1
      . exact h.av h1
      . exact h.bv h1
    . have:g < w.heap.size:=h.lt (by rcases c with e|e|e;exact .inl e;exact .inr (.inl e);exact .inr (.inr (.inl e)))
      omega
  refine⟨⟨co 0 _ (by decide) ((cp 0).trans h.c0),co 1 _ (by decide) ((cp 1).trans h.c1),co 2 _ (by decide) ((cp 2).trans h.c2),co 3 _ (by decide) ((cp 3).trans h.c3),s0,fun o => ?_,h.sa.same ((bo a h.pa).trans (hs a (.inr (.inl rfl)))),h.sb.same ((bo b h.pb).trans (hs b (.inr (.inr rfl)))),
    ownsRow_same ho (fun g e=>bo g (fun c=>nw g e (.inl c))),h.pa,h.pb,h.ab,fun e=>nw p e (.inl rfl),fun e=>nw a e (.inr (.inl rfl)),fun e=>nw b e (.inr (.inr rfl)),h.n1⟩,?_,?_⟩
  . rw[fo o,World.frozen?_of_block (a:=⟨p,o,none⟩) (hs p (.inl rfl))]
    exact h.fr o
  . intro g hg'
    rcases hg' with e|e|e|e
    . exact .inl (.inl e)
    . exact .inl (.inr (.inl e))
    . exact .inl (.inr (.inr (.inl e)))
    . rcases hl g e with h1|h1
      . exact .inl (.inr (.inr (.inr h1)))
      . exact .inr h1
  . refine⟨hg.os,hg.tape,hg.output,by simpa using hg.size,fun g hgl hF => ?_⟩
    rw[bo g (fun c=>hF (.inl c))];exact hg.block g hgl (fun c=>hF (.inr (.inr (.inr c.symm))))
end
def KAt (w:Wo) (p:Nat) (F:Nat->Prop) (s:St):Prop:=Ok s/\∃a b v,F=Foot p a b v/\Raw w p s.n s.down s.fuse s.f s.sh s.l a b v
def Stp (w:Wo) (p:Nat) (F:Nat->Prop) (s:St) (w':Wo):Prop:=∃F',KAt w' p F' s/\Nx w F F'/\Bf F w w'
theorem KAt.lt {w:Wo} {p:Nat} {F:Nat->Prop} {s:St} (h:KAt w p F s) {g:Nat} (hg:F g):g < w.heap.size:=by
  obtain⟨-,a,b,v,rfl,hr⟩:=h;exact hr.lt hg
theorem KAt.other {w w':Wo} {p:Nat} {F G:Nat->Prop} {s:St} (h:KAt w p F s) (hb:Bf G w w') (hF:∀g,F g->¬G g):KAt w' p F s:=by
  obtain⟨ho,a,b,v,rfl,hr⟩:=h;exact⟨ho,a,b,v,rfl,hr.other hb hF⟩
theorem KAt.later {w w':Wo} {p:Nat} {F:Nat->Prop} {s:St} (h:KAt w p F s) (hb:Bw w w'):KAt w' p F s:=by
  obtain⟨ho,a,b,v,rfl,hr⟩:=h;exact⟨ho,a,b,v,rfl,hr.later hb⟩
theorem KAt.stays {w w':Wo} {p:Nat} {F:Nat->Prop} {s:St} (h:KAt w p F s) (hb:Bw w w'):Stp w p F s w':=⟨F,h.later hb,Nx.refl _ _,Bf.of hb⟩
theorem zbG (p:Nat) (F:Nat->Prop) (s:St) (w:Wo) (h:KAt w p F s) :
    Cl 137 #[.pointer (some ⟨p,0,none⟩)] w fun e w'=>e = .returned (.int .i64 (s.n:Int))/\w'=w:=by
  obtain⟨-,a,b,v,-,hr⟩:=h;have c2:=hr.c2;obtain⟨n,hn⟩:∃n,s.n=n:=⟨_,rfl⟩;rw[hn] at c2 ⊢;clear hr hn;go_enter Tryz.func137, Tryz.ntmps137;go_wp2;go_ret;exact⟨rfl,rfl⟩
theorem zbu {w:Wo} {v:Value} {l:List Wt} (h:zdm w v l):∃a c,v = .slice a l.length c:=by
  rcases h.2 with ⟨rfl,h2⟩|⟨g,cap,cur,rfl,-⟩
  . exact⟨_,_,by rw[h2]⟩
  . exact⟨_,_,rfl⟩
theorem zee (p:Nat) (F:Nat->Prop) (s:St) (k:Int) (w:Wo) (h:KAt w p F s) :
    Cl 339 #[.pointer (some ⟨p,0,none⟩),.int .i64 k] w fun e w'=>e = .returned (.int .i64 (rch s k))/\w'=w:=by
  have SZ:Hid _:=zbG p F s w h;obtain⟨-,a,b,v,-,hr⟩:=h;have c0:=hr.c0;unfold rch;obtain⟨n,hn⟩:∃n,s.n=n:=⟨_,rfl⟩;obtain⟨d,hd⟩:∃d,s.down=d:=⟨_,rfl⟩;rw[hn] at SZ ⊢;rw[hd] at c0 ⊢;clear hr hn hd;cases d
  . by_cases h0:k < 0
    . simp[h0] at c0 ⊢
      go_enter Tryz.func339, Tryz.ntmps339;go_wp2;go_ret;exact⟨rfl,rfl⟩
    . by_cases h1:(n:Int)<=k
      . simp[h1] at c0 ⊢
        go_enter Tryz.func339, Tryz.ntmps339;go_wp2_with (go_at_call 137;refine cM SZ.out ?_;rintro e w1 ⟨rfl,rfl⟩);go_ret;exact⟨rfl,rfl⟩
      . simp[h0,h1] at c0 ⊢
        go_enter Tryz.func339, Tryz.ntmps339;go_wp2_with (go_at_call 137;refine cM SZ.out ?_;rintro e w1 ⟨rfl,rfl⟩);go_ret;exact⟨rfl,rfl⟩
  . simp at c0 ⊢
    go_enter Tryz.func339, Tryz.ntmps339;go_wp2;go_ret;exact⟨rfl,rfl⟩
theorem Raw.brn {w:Wo} {p:Nat} {s:St} {a b:Nat} {v:Value} (h:Raw w p s.n s.down s.fuse s.f s.sh s.l a b v) (hd:s.down=false) (h0:s.fuse=0):Raw w p (zaR s).n (zaR s).down (zaR s).fuse (zaR s).f (zaR s).sh (zaR s).l a b v:=by
  have e:zaR s=s:=by
    obtain⟨n,f,l,fuse,down⟩:=s;simp only at hd h0;subst hd h0;rfl
  rw[e];exact h
theorem zdn (p:Nat) (F:Nat->Prop) (s:St) (hd:s.down=false) (w:Wo) (h:KAt w p F s) :
    Cl 336 #[.pointer (some ⟨p,0,none⟩)] w fun e w'=>e = .returned (.bool (decide (s.fuse=1)))/\KAt w' p F (zaR s)/\Bf F w w':=by
  obtain⟨ho,a,b,v,rfl,hr⟩:=h;have c0:=hr.c0;have c1:=hr.c1;have f0:=hr.fr 0;have f1:=hr.fr 1;have hfu:=ho.fu;by_cases h0:s.fuse=0
  . have HR:Hid (KAt w p (Foot p a b v) (zaR s)/\Bf (Foot p a b v) w w):=⟨⟨ho.brn,a,b,v,rfl,hr.brn hd h0⟩,Bf.refl _ _⟩
    rw[h0] at c1 ⊢;clear hr ho h0 c0 hfu;go_enter Tryz.func336, Tryz.ntmps336;go_wp2;go_ret;exact⟨rfl,HR.out⟩
  . by_cases h1:s.fuse=1
    . have HR:Hid (KAt ((w.setCell ⟨p,1,none⟩ (.int .i64 0)).setCell ⟨p,0,none⟩ (.int .i64 1)) p (Foot p a b v) (zaR s)/\Bf (Foot p a b v) w ((w.setCell ⟨p,1,none⟩ (.int .i64 0)).setCell ⟨p,0,none⟩ (.int .i64 1))):=by
        refine⟨⟨ho.brn,a,b,v,rfl,?_⟩,(Bf.set _ w p 1 _ (.inl rfl)).trans (Nx.refl _ _) (Bf.set _ _ p 0 _ (.inl rfl))⟩;have:=(hr.setFuse 0).setDown true;unfold zaR;rw[h1];exact this
      rw[h1] at c1 ⊢;clear hr ho h0 h1 hfu;rw[hd] at c0;clear hd;go_enter Tryz.func336, Tryz.ntmps336;go_wp2;go_ret;exact⟨rfl,HR.out⟩
    . obtain⟨m,hm⟩:∃m:Nat,s.fuse=m+2:=⟨s.fuse - 2,by omega⟩
      have HR:Hid (KAt (w.setCell ⟨p,1,none⟩ (.int .i64 ((m:Int)+1))) p (Foot p a b v) (zaR s)/\Bf (Foot p a b v) w (w.setCell ⟨p,1,none⟩ (.int .i64 ((m:Int)+1)))):=by
        refine⟨⟨ho.brn,a,b,v,rfl,?_⟩,Bf.set _ w p 1 _ (.inl rfl)⟩;have:=hr.setFuse (m+1);have e:zaR s={ s with fuse:=m+1 }:=by
          obtain⟨n,f,l,fuse,down⟩:=s;simp only at hd hm;subst hd hm;simp[zaR]
        rw[e];exact this
      rw[hm] at c1 hfu ⊢;have e1:decide (m+2=1)=false:=by simp
      have z1:IntKind.i64.wrap (((m+2:Nat):Int) - 1)=(m:Int)+1:=by rw[IntKind.wrap_i64];omega
      have z2:¬((m+2:Nat):Int)=0:=by omega
      have z3:0 < (m:Int)+1:=by omega
      rw[e1];obtain⟨x,hx⟩:∃x:Int,((m+2:Nat):Int)=x:=⟨_,rfl⟩;obtain⟨y,hy⟩:∃y:Int,(m:Int)+1=y:=⟨_,rfl⟩;rw[hx] at c1 z1 z2;rw[hy] at z1 z3 HR;clear hr ho h0 h1 hfu hm e1 hx hy c0 hd;go_enter Tryz.func336, Tryz.ntmps336;go_wp2;go_ret;exact⟨rfl,HR.out⟩
theorem zdo (x:Int) (w:Wo):Cl 48 #[.int .i64 x] w fun e w'=>e = .returned (.int .i64 (pk x:Int))/\w'=w:=by
  have hN:(0:Int) < 65:=by decide
  have r1:=Int.tmod_lt_of_pos x hN;have r2:=Int.lt_tmod_of_pos x hN;have hp:=zqY x;have hl:=znf x;obtain⟨r,hr⟩:∃r,Int.tmod x 65=r:=⟨_,rfl⟩;rw[hr] at r1 r2 hp;have z1:IntKind.i64.wrap (Int.tmod x 65)=r:=by rw[hr,IntKind.wrap_i64];omega
  have z2:IntKind.i64.wrap (r+65)=r+65:=by rw[IntKind.wrap_i64];omega
  have z3:IntKind.i64.wrap (Int.tmod (r+65) 65)=(r+65).tmod 65:=by rw[hp,IntKind.wrap_i64];omega
  have HP:Hid ((r+65).tmod 65=(pk x:Int)):=hp;clear r1 r2 hN hp hl;go_enter Tryz.func48, Tryz.ntmps48;go_wp2;go_ret;exact⟨by rw[<-HP.out];rfl,rfl⟩
def st (l:Bs):Ba:=⟨l.toArray⟩
abbrev sv (l:Bs):Value := .string (st l)
theorem zdp (l:Bs):(st l).data.toList=l:=rfl
theorem zni {w:Wo} {b o:Nat} {l:Bs} (h:w.rangeAt b o (bc l)) (cap:Nat):(convert 99 9 (.slice (some ⟨b,o,none⟩) l.length cap)).run Tryz.prog w = .ok (sv l) w :=
  run_convert_bytes_back (P:=Tryz.prog) w 99 9 5 ⟨b,o,none⟩ cap l Tryz.underlying99 Tryz.underlying5 Tryz.underlying9 (fun j hj=>by
    have q:Addr.add ⟨b,o,none⟩ j=⟨b,o+j,none⟩:=Addr.add_mid b o j;rw[q];exact h j _ (by simp[bc,hj]))
theorem zef (s:St) (k:Int):rch s k=0/\s.down=false/\0<=k/\k < (s.n:Int)\/rch s k≠0:=by
  unfold rch
  split
  . exact .inr (by simp)
  . split
    . exact .inr (by simp)
    . rename_i h1 h2
      exact .inl ⟨rfl,by simpa using h1,by omega,by omega⟩
theorem read_any (p:Nat) (F:Nat->Prop) (s:St) (k:Int) (w:Wo) (h:KAt w p F s) :
    Cl 289 #[.pointer (some ⟨p,0,none⟩),.int .i64 k] w fun e w'=>e = .returned (.tuple #[sv (rdV s k),.int .i64 (rch s k)])/\w'=w:=by
  have RC:Hid _:=zee p F s k w h;rcases zef s k with ⟨h0,-,hk0,hk1⟩|hne
  . rw[rdV,if_pos h0,h0]
    rw[h0] at RC;obtain⟨m,rfl⟩:∃m:Nat,k=(m:Int):=⟨k.toNat,by omega⟩;rw[Int.toNat_natCast];obtain⟨ho,a,b,v,-,hr⟩:=h;have c3:=hr.c3;have hm:m < s.n:=by omega
    have TX:=zni (hr.sb.at_ m hm) 64;rw[ho.sh64 m] at TX;obtain⟨r,hrr⟩:∃r,sv (s.sh m)=r:=⟨_,rfl⟩;obtain⟨n,hn⟩:∃n,s.n=n:=⟨_,rfl⟩;rw[hrr] at TX ⊢;rw[hn] at c3 hk1 hm;clear h0 hr ho hrr hn;go_enter Tryz.func289, Tryz.ntmps289;go_wp2_with (go_at_call 339;refine cM RC.out ?_;rintro e w1 ⟨rfl,rfl⟩);go_ret2;exact⟨rfl,rfl⟩
  . rw[rdV,if_neg hne]
    obtain⟨x,hx⟩:∃x,rch s k=x:=⟨_,rfl⟩;rw[hx] at RC hne ⊢;clear h hx;go_enter Tryz.func289, Tryz.ntmps289;go_wp2_with (go_at_call 339;refine cM RC.out ?_;rintro e w1 ⟨rfl,rfl⟩);go_ret2;exact⟨rfl,rfl⟩
def zeg:Value := .agg (Array.replicate 64 (.int .u8 0))
theorem znj:(Tryz.prog.info? 118).map (fun i=>(i.zero,i.size,i.bytes))=some (some zeg,64,64):=by kernel_rfl
theorem zkQ (m n j:Nat) (x:Value) (hm:0 < m) (hj:j < n):(madeCells (Array.replicate m x) n)[j]?=some x:=by
  have h:j % m < m:=Nat.mod_lt _ hm;simp[madeCells,hj,h]
theorem znk (n j:Nat) (hj:j < n*64):(madeCells zeg.cells (n*64))[j]?=some (.int .u8 0):=zkQ 64 _ _ _ (by decide) hj
theorem zkR (n:Nat):bc (List.replicate n 0)=List.replicate n (.int .u8 0):=by simp[bc]
theorem ziq (n:Nat) (hn:n<=1024):∃M:Array Value,(∀w:Wo,(Instr.makeSlice 92 (.int .i64 (n:Int)) (.int .i64 (n:Int))).run Tryz.prog w = .ok (.slice (some ⟨w.heap.size,0,none⟩) n n) (w.alloc (.cells M 118)))
    /\ ∀w:Wo,Sec (w.alloc (.cells M 118)) w.heap.size n (fun _=>List.replicate 64 0):=by
  obtain⟨i0,hi,hz0,hz1,hz2⟩:=info_parts znj;refine⟨madeCells zeg.cells (n*64),fun w => ?_,fun w => ?_⟩
  . have h:=run_make (P:=Tryz.prog) w 92 118 i0 zeg Tryz.underlying92 hi hz0 .i64 .i64 (n:Int) (n:Int) (by omega) (Int.le_refl _) (by rw[hz2];omega) (by omega)
    rw[Int.toNat_natCast,hz1] at h;exact h
  . have hc:∀j,j < n*64->(w.alloc (.cells (madeCells zeg.cells (n*64)) 118)).cell? ⟨w.heap.size,j,none⟩=some (.int .u8 0):=fun j hj=>by
      rw[World.cell?_alloc_new,znk n j hj]
    refine⟨fun k hk j v hv => ?_,fun j hj => ?_,fun _=>by simp⟩
    . have hj:j < 64:=by
        have:=(List.getElem?_eq_some_iff.1 hv).1;rw[zaK,List.length_replicate] at this;exact this
      rw[hc _ (by omega)];rw[zkR,List.getElem?_replicate,if_pos hj] at hv;rw[<-hv]
    . rw[Nat.zero_add,hc j hj]
      exact⟨rfl,by simp[go_sem]⟩
theorem zir (n:Nat) (h1:1<=n) (h2:n<=1024) (w w2:Wo) (a b:Nat) (ha:Sec w2 a n (fun _=>List.replicate 64 0)) (hb:Sec w2 b n (fun _=>List.replicate 64 0)) (ea:w.heap.size<=a) (eb:w.heap.size<=b) (hn:a≠b) (hw:Below w.heap.size w w2) (p:Nat) (hp:w2.heap.size=p) :
    let W:=(w2.alloc (.cells #[.int .i64 0,.int .i64 0,.slice (some ⟨a,0,none⟩) n n,.slice (some ⟨b,0,none⟩) n n,.slice none 0 0] 95)).drew
    (∃F,KAt W p F (St.init n)/\∀g,F g->w.heap.size<=g)/\Below w.heap.size w W:=by
  subst hp;have la:=ha.lt h1;have lb:=hb.lt h1;have nb:Below w2.heap.size w2 (w2.alloc (.cells #[.int .i64 0,.int .i64 0,.slice (some ⟨a,0,none⟩) n n,.slice (some ⟨b,0,none⟩) n n,.slice none 0 0] 95)).drew:=((bQ _ _).alloc (nL _) _).drew;refine⟨⟨Foot w2.heap.size a b (.slice none 0 0),⟨Ok.init h1 h2,a,b,_,rfl,?_⟩,fun g hg => ?_⟩,chain hw nb⟩
  . exact⟨by simp[go_sem,St.init],by simp[go_sem,St.init],by simp[go_sem,St.init],by simp[go_sem,St.init],by simp[go_sem],fun o=>by simp[go_sem],ha.same (nb.block a la),hb.same (nb.block b lb),World.ownsRow_nil _ _ _ _,
      by omega,by omega,hn,nofun,nofun,nofun,h1⟩
  . rcases hg with rfl|rfl|rfl|e
    . exact hw.size
    . exact ea
    . exact eb
    . cases e
theorem new_any (n:Nat) (h1:1<=n) (h2:n<=1024) (w:Wo) :
    Cl 11 #[.int .i64 (n:Int)] w fun e w'=>∃p F,e = .returned (.tuple #[.pointer (some ⟨p,0,none⟩),.int .i64 0])/\KAt w' p F (St.init n)/\(∀g,F g->w.heap.size<=g)/\Below w.heap.size w w':=by
  have g1:¬(n:Int) < 1:=by omega
  have g2:¬(1024:Int) < (n:Int):=by omega
  obtain⟨M,MK,hM⟩:=ziq n h2;have HS:Hid (∀w:Wo,Sec _ _ _ _):=hM;have S1:Sec ((w.alloc (.cells M 118)).alloc (.cells M 118)) w.heap.size n (fun _=>List.replicate 64 0):=(hM w).same (((bQ _ _).alloc (nL _) _).block _ ((hM w).lt h1));have S2:=hM (w.alloc (.cells M 118));have e1:(w.alloc (.cells M 118)).heap.size=w.heap.size+1:=by simp
  have BB:Below w.heap.size w ((w.alloc (.cells M 118)).alloc (.cells M 118)):=chain ((bQ _ _).alloc (nL _) _) ((bQ _ _).alloc (nL _) _);rw[e1] at S2;have K1:Hid _:=zir n h1 h2 w _ _ _ S1 S2 (nL _) (by omega) (by omega) BB (w.heap.size+1+1) (by simp);have K2:Hid _:=zir n h1 h2 w _ _ _ S2 S1 (by omega) (nL _) (by omega) BB (w.heap.size+1+1) (by simp);clear hM S1 S2 e1 BB HS;go_enter Tryz.func11, Tryz.ntmps11;go_wp2_with fail;go_region_with fail
  all_goals (go_wp2;go_ret2)
  all_goals first
    | (obtain⟨⟨F,k1,k2⟩,k3⟩:=K1.out
       exact⟨_,F,rfl,k1,k2,k3⟩)
    | (obtain⟨⟨F,k1,k2⟩,k3⟩:=K2.out
       exact⟨_,F,rfl,k1,k2,k3⟩)
end Go.Proofs.YtjcppbhgjchjaaaGreatDoor.Sto
