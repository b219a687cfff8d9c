/- A part of the walk. -/
import Derived.Test.YtjcppbhgjchjaaaGreatDoorZr3G07
import Derived.Shelf.Pu.Clone
set_option maxHeartbeats 8000000
set_option maxRecDepth 20000
namespace Go.Proofs.YtjcppbhgjchjaaaGreatDoor.Crv
open Go.RowKit Go.Proofs.Fd
def BytesAt (w:Wo) (b:Nat) (l:List UInt8):Prop:=∀j (hj:j < l.length),w.cell? ⟨b,j,none⟩=some (.int .u8 (l[j].toNat:Int))/\w.frozen? ⟨b,j,none⟩=false
theorem BytesAt.later {W w1:Wo} {b:Nat} {l:List UInt8} (h:BytesAt W b l) (hb:Bw W w1):BytesAt w1 b l:=fun j hj=>by
 obtain⟨h0,h1⟩:=h j hj;exact⟨cell_later hb h0,(zae hb (World.block_lt_of_cell? _ _ h0)).trans h1⟩
theorem BytesAt.set {w:Wo} {b:Nat} {l:List UInt8} (h:BytesAt w b l) (k:Nat) (x:UInt8) (v:Int) (hv:v=(x.toNat:Int)):BytesAt (w.setCell ⟨b,k,none⟩ (.int .u8 v)) b (l.set k x):=fun j hj=>by
 subst hv;obtain⟨h0,h1⟩:=h j (by simpa using hj);refine⟨?_,by simp[go_sem,h1]⟩;by_cases e:k=j
 ·subst e;simp[go_sem,h0]
 ·have hne:(⟨b,k,none⟩:Addr)≠⟨b,j,none⟩:=fun q=>e (by injection q)
  rw[World.cell?_setCell_other _ _ _ _ hne,h0];simp[e]
theorem BytesAt.other {w:Wo} {b:Nat} {l:List UInt8} (h:BytesAt w b l) {a:Addr} (hne:a.block≠b) (v:Value):BytesAt (w.setCell a v) b l:=fun j hj =>
 ⟨zaa (h j hj).1 hne,(zag hne).trans (h j hj).2⟩
theorem BytesAt.string {w:Wo} {b cap n:Nat} {l:List UInt8} (h:BytesAt w b l) (hn:l.length=n) :
  (convert 99 9 (.slice (some ⟨b,0,none⟩) n cap)).run Tryz.prog w = .ok (.string ⟨l.toArray⟩) w:=by
 subst hn;exact run_convert_bytes_back (P:=Tryz.prog) w 99 9 5 ⟨b,0,none⟩ cap l Tryz.underlying99 Tryz.underlying5 Tryz.underlying9 (fun j hj=>by
  have q:Addr.add ⟨b,0,none⟩ j=⟨b,j,none⟩:=by simp[Addr.add];intro h;exact h.symm
  rw[q];exact (h j hj).1)
theorem bytes_of (s:Ba) (w:Wo):∃(cap:Nat) (W:Wo),(convert 9 99 (.string s)).run Tryz.prog w = .ok (.slice (some ⟨w.heap.size,0,none⟩) s.size cap) W
  /\ BytesAt W w.heap.size s.data.toList/\Bw w W/\s.size<=cap:=by
 refine⟨_,_,run_bytes_of_string (P:=Tryz.prog) w 9 99 5 s Tryz.underlying9 Tryz.underlying99 Tryz.underlying5, ?_,?_,?_⟩
 ·intro j hj
  have hj':j < s.data.size:=by simpa using hj
  generalize grownCap w s.size 0 5 = cap;have hc:=bytesRow_at s cap j hj';have hlt:j < (bytesRow s cap).size:=by
   obtain⟨h,_⟩:=Array.getElem?_eq_some_iff.1 hc;exact h
  refine⟨?_,?_⟩
  ·show (w.drew.alloc _).cell? ⟨w.drew.heap.size,j,none⟩=_
   rw[World.cell?_alloc_mark,hc];simp
  ·show (w.drew.alloc _).frozen? ⟨w.drew.heap.size,j,none⟩=false
   rw[World.frozen?_alloc_mark];have:¬(bytesRow s cap).size<=j:=by omega
   simp[this]
 ·exact (bQ _ w).drew.alloc (nL _) _
 ·exact grownCap_ge _ _ _ _
end Go.Proofs.YtjcppbhgjchjaaaGreatDoor.Crv
namespace Go.Proofs.YtjcppbhgjchjaaaGreatDoor.Crv
open Go.RowKit Go.Proofs.Fd Go.Proofs.Ed
theorem zlQ (x:UInt8):bits .and .u8 (x.toNat:Int) 127=((UInt8.ofNat (x.toNat % 128)).toNat:Int):=by
 have h:=x.toNat_lt;have:=bits_mask .u8 8 (by decide) wraps_u8 7 (by decide) (x.toNat:Int) (by omega) (by omega);rw[show (2:Int) ^ 7 - 1=127 by decide,show (2:Int) ^ 7=128 by decide] at this;rw[this,UInt8.toNat_ofNat'];omega
theorem zlR {l:List UInt8} (h:l.length=32):(⟨l.toArray⟩:Ba)=enc (num l):=by
 have:=zmi (s:=⟨l.toArray⟩) (by show l.toArray.size=32;simpa using h);exact this.symm
theorem zjR (n:Nat):enc (n % 2 ^ 255 % p)=ek (ptN n):=rfl
theorem zd1 (s:Ba) (hs:s.size=32) (w:Wo) :
  Cl 110 #[.string s] w fun e w'=>e = .returned (.string (ek (ptN (num s.data.toList))))/\Bw w w':=by
 obtain⟨cap,W,hcv,hB,hb,hcap⟩:=bytes_of s w;rw[hs] at hcv hcap;have hl:s.data.toList.length=32:=by simpa using hs
 have BW:Hid (BytesAt W w.heap.size s.data.toList/\Bw w W):=⟨hB,hb⟩;have CV:Hid ((convert 99 9 (.slice (some ⟨w.heap.size,0,none⟩) 32 cap)).run Tryz.prog (W.setCell ⟨w.heap.size,31,none⟩ (.int .u8 (bits .and .u8 (s.data.toList[31].toNat:Int) 127))) = .ok (.string (enc (num s.data.toList % 2 ^ 255))) (W.setCell ⟨w.heap.size,31,none⟩ (.int .u8 (bits .and .u8 (s.data.toList[31].toNat:Int) 127)))):=by
  have h:=(hB.set 31 _ _ (zlQ s.data.toList[31])).string (cap:=cap) (n:=32) (by simpa using hl);rw[zlR (by simpa using hl),zmv _ hl _ (by rw[UInt8.toNat_ofNat'];omega)] at h;exact h
 obtain⟨c31,f31⟩:=hB 31 (by omega);have RD:Hid (∀w,Cl 190 #[.string (enc (num s.data.toList % 2 ^ 255))] w fun e w'=>e = .returned (.tuple #[.string (ek (ptN (num s.data.toList))),.int .i64 0])/\Bw w w'):=fun w=>by
  have h:=zht (enc (num s.data.toList % 2 ^ 255)) (by rw[zby];omega) w;rw[zcd (Nat.lt_trans (Nat.mod_lt _ (by decide)) (by decide:2 ^ 255 < zas)),zjR] at h;exact h
 generalize ek (ptN (num s.data.toList))=r at *;generalize enc (num s.data.toList % 2 ^ 255)=m at *;generalize s.data.toList[31]=x at *;clear hB hb hl;have CV':=CV.out;go_enter Tryz.func110, Tryz.ntmps110;go_wp2_with fail;refine cM (RD.out _) ?_;rintro e w1 ⟨rfl,hb⟩;have B1:Hid (Bw w w1):=chain (BW.out.2.setCell (p:=⟨w.heap.size,31,none⟩) (nL _) _) hb;clear hb;go_wp2;go_ret;exact⟨rfl,B1.out⟩
def wh (ss:List Ba):Bool:=ss.all fun s=>decide (s.size=32)
theorem wh_take {ss:List Ba} {k:Nat} (hk:k < ss.length) (h:wh (ss.take k)=true) (h':ss[k].size=32):wh (ss.take (k+1))=true:=by
 unfold wh at *;rw[List.take_succ_eq_append_getElem hk,List.all_append,h];simp[h']
theorem wh_not {ss:List Ba} {k:Nat} (hk:k < ss.length) (h':¬ss[k].size=32):wh ss=false:=by
 unfold wh;rw[List.all_eq_false];exact⟨ss[k],List.getElem_mem hk,by simpa using h'⟩
theorem whole_any (a:Option Addr) (ss:List Ba) (n cap:Nat) (hn:Hid (ss.length=n)) (hm:n<=9223372036854775807) (w:Wo) (hc:Hid (StrAt w a ss)) :
  Cl 108 #[.slice a n cap] w fun e w'=>e = .returned (.bool (wh ss))/\Bw w w':=by
 go_enter Tryz.func108, Tryz.ntmps108;go_wp2;go_loopw [7] (fun i wr=>∃k:Nat,k<=n/\i = .int .i64 k/\Hid (wh (ss.take k)=true/\Bw w wr)) (fun i _=>n - (intOf i).toNat)
 case atStart=>exact⟨0,Nat.zero_le _,rfl,rfl,bQ _ _⟩
 case round =>
  obtain⟨k,hk,rfl,I⟩:=hrel;by_cases hlt:k < n
  ·have hk':k < ss.length:=by have:=hn.out;omega
   obtain⟨b,o,rfl,hcell⟩:=StrAt.later hc.out I.out.2 k hk';have HT:Hid (ss[k].size=32->wh (ss.take (k+1))=true):=fun h=>wh_take hk' I.out.1 h
   have HN:Hid (¬ss[k].size=32->wh ss=false):=fun h=>wh_not hk' h
   generalize ss[k]=s at *;by_cases h0:s.size=32
   ·have hz:((s.size:Int) != 32)=false:=by simp[h0]
    have fin:=HT.out h0;have FIN:Hid (wh (ss.take (k+1))=true):=fin;clear fin h0;go_wp2;go_roundw
    case rel=>exact⟨k+1,by omega,by go_num,FIN.out,I.out.2⟩
    case measure=>simp[intOf];omega
   ·have hz:((s.size:Int) != 32)=true:=by simp;omega
    have FIN:Hid (wh ss=false):=HN.out h0;clear h0;go_wp2;go_ret;exact⟨ret_bool FIN.out.symm,I.out.2⟩
  ·have hkn:k=n:=by omega
   subst hkn;have CA:Hid (wh ss=true):=by
    have:=I.out.1;rw[List.take_of_length_le (by have:=hn.out;omega)] at this;exact this
   go_wp2;go_ret;exact⟨ret_bool CA.out.symm,I.out.2⟩
theorem zcJ (s:Ba) (B:Nat) (w:Wo) (h0:w.cell? ⟨B,0,none⟩=some (.string s)) :
  Cl 108 #[.slice (some ⟨B,0,none⟩) 1 1] w fun e w'=>e = .returned (.bool (decide (s.size=32)))/\Bw w w':=by
 have:=whole_any (some ⟨B,0,none⟩) [s] 1 1 rfl (by omega) w (fun i hi=>by
  have:i=0:=by simp at hi;omega
  subst this;exact⟨B,0,rfl,h0⟩)
 rw[show wh [s]=decide (s.size=32) by simp[wh]] at this;exact this
theorem zoJ (x:UInt8):bits .and .u8 (x.toNat:Int) 248=((UInt8.ofNat (x.toNat / 8*8)).toNat:Int):=by
 have h:=x.toNat_lt;have e:=(bits_nat .u8 8 (by decide) wraps_u8 x.toNat 248 (by omega) (by decide)).1;have key:∀n:Fin 256,n.val &&& 248=n.val / 8*8:=by decide +kernel
 have k:=key ⟨x.toNat,by omega⟩;rw[show ((248:Nat):Int)=248 from rfl] at e;rw[e,UInt8.toNat_ofNat',show x.toNat &&& 248=x.toNat / 8*8 from k];omega
theorem or64 (x:UInt8):bits .or .u8 (bits .and .u8 (x.toNat:Int) 127) 64=((UInt8.ofNat (x.toNat % 64+64)).toNat:Int):=by
 have h:=x.toNat_lt;rw[zlQ,UInt8.toNat_ofNat',show x.toNat % 128 % 2 ^ 8=x.toNat % 128 by omega];have e:=(bits_nat .u8 8 (by decide) wraps_u8 (x.toNat % 128) 64 (by omega) (by decide)).2;have key:∀n:Fin 128,n.val ||| 64=n.val % 64+64:=by decide +kernel
 have k:=key ⟨x.toNat % 128,by omega⟩;rw[show ((64:Nat):Int)=64 from rfl] at e;rw[e,UInt8.toNat_ofNat',show x.toNat % 128 ||| 64=x.toNat % 128 % 64+64 from k];omega
theorem zjS (s:Ba) (hs:s.size=32) (w:Wo) :
  Cl 107 #[.string s] w fun e w'=>e = .returned (.tuple #[.string (enc (clampN (num s.data.toList))),.int .i64 0])/\Bw w w':=by
 have hd:decide (s.size=32)=true:=by simpa using hs
 go_enter Tryz.func107, Tryz.ntmps107;go_wp2_with fail;refine cM (zcJ s w.heap.size _ (by simp[go_sem])) ?_;rintro e w1 ⟨rfl,hb⟩;rw[hd];have B1:Hid (Bw w w1):=chain ((bQ _ _).alloc (nL _) _) hb;clear hb;obtain⟨cap,W,hcv,hB,hb,hcap⟩:=bytes_of s w1;rw[hs] at hcv hcap;have hl:s.data.toList.length=32:=by simpa using hs
 have BW:Hid (Bw w W/\w.heap.size<=w1.heap.size):=⟨chain B1.out hb,B1.out.size⟩;obtain⟨c0,f0⟩:=hB 0 (by omega);obtain⟨c31,f31⟩:=hB 31 (by omega);have CV:Hid ((convert 99 9 (.slice (some ⟨w1.heap.size,0,none⟩) 32 cap)).run Tryz.prog ((W.setCell ⟨w1.heap.size,0,none⟩ (.int .u8 (bits .and .u8 (s.data.toList[0].toNat:Int) 248))).setCell ⟨w1.heap.size,31,none⟩ (.int .u8 (bits .or .u8 (bits .and .u8 (s.data.toList[31].toNat:Int) 127) 64)))
   = .ok (.string (enc (clampN (num s.data.toList)))) ((W.setCell ⟨w1.heap.size,0,none⟩ (.int .u8 (bits .and .u8 (s.data.toList[0].toNat:Int) 248))).setCell ⟨w1.heap.size,31,none⟩ (.int .u8 (bits .or .u8 (bits .and .u8 (s.data.toList[31].toNat:Int) 127) 64)))):=by
  have h:=((hB.set 0 _ _ (zoJ s.data.toList[0])).set 31 _ _ (or64 s.data.toList[31])).string (cap:=cap) (n:=32) (by simpa using hl);have h0:=s.data.toList[0].toNat_lt;have h31:=s.data.toList[31].toNat_lt;rw[zlR (by simpa using hl),zhx _ hl _ _ (by rw[UInt8.toNat_ofNat'];omega) (by rw[UInt8.toNat_ofNat'];omega)] at h;exact h
 obtain⟨m,hm⟩:∃m,enc (clampN (num s.data.toList))=m:=⟨_,rfl⟩;rw[hm] at CV;have HM:Hid (enc (clampN (num s.data.toList))=m):=hm;clear hm;generalize s.data.toList[31]=x at *;generalize s.data.toList[0]=y at *;clear hB hb hl;have CV':=CV.out;go_wp2;go_ret2;refine⟨by rw[HM.out];rfl,?_⟩;exact ((BW.out.1.setCell (p:=⟨w1.heap.size,0,none⟩) BW.out.2 _).setCell (p:=⟨w1.heap.size,31,none⟩) BW.out.2 _)
def LH (w0:Wo) (L H:Nat) (x2 z2 x3 z3 u:K) (w:Wo):Prop :=
 w.cell? ⟨L,0,none⟩=some (.string (ek x2))/\w.cell? ⟨L,1,none⟩=some (.string (ek z2))/\w.cell? ⟨H,0,none⟩=some (.string (ek x3))/\w.cell? ⟨H,1,none⟩=some (.string (ek z3))/\w.cell? ⟨H,2,none⟩=some (.string (ek u))
  /\ (∀o,w.frozen? ⟨L,o,none⟩=false)/\(∀o,w.frozen? ⟨H,o,none⟩=false)/\Bw w0 w/\w0.heap.size<=L/\w0.heap.size<=H/\L≠H
theorem LH.later {w0 W w1:Wo} {L H:Nat} {x2 z2 x3 z3 u:K} (h:LH w0 L H x2 z2 x3 z3 u W) (hb:Bw W w1):LH w0 L H x2 z2 x3 z3 u w1:=by
 obtain⟨h0,h1,h2,h3,h4,f0,f1,hB,n0,n1,n2⟩:=h;have hl:L < W.heap.size:=World.block_lt_of_cell? _ _ h0;have hh:H < W.heap.size:=World.block_lt_of_cell? _ _ h2;exact⟨cell_later hb h0,cell_later hb h1,cell_later hb h2,cell_later hb h3,cell_later hb h4,fun o=>(zae hb hl).trans (f0 o),fun o=>(zae hb hh).trans (f1 o),chain hB hb,n0,n1,n2⟩
theorem LH.low {w0 W:Wo} {L H:Nat} {x2 z2 x3 z3 u:K} (h:LH w0 L H x2 z2 x3 z3 u W) (a b:K):LH w0 L H a b x3 z3 u ((W.setCell ⟨L,0,none⟩ (.string (ek a))).setCell ⟨L,1,none⟩ (.string (ek b))):=by
 obtain⟨h0,h1,h2,h3,h4,f0,f1,hB,n0,n1,n2⟩:=h;exact⟨by simp[go_sem,h0],by simp[go_sem,h1],zaa (zaa h2 n2) n2,zaa (zaa h3 n2) n2,zaa (zaa h4 n2) n2,fun o=>by simp[f0],fun o=>by simp[f1],(hB.setCell (p:=⟨L,0,none⟩) n0 _).setCell (p:=⟨L,1,none⟩) n0 _,n0,n1,n2⟩
theorem LH.high {w0 W:Wo} {L H:Nat} {x2 z2 x3 z3 u:K} (h:LH w0 L H x2 z2 x3 z3 u W) (a b:K):LH w0 L H x2 z2 a b u ((W.setCell ⟨H,0,none⟩ (.string (ek a))).setCell ⟨H,1,none⟩ (.string (ek b))):=by
 obtain⟨h0,h1,h2,h3,h4,f0,f1,hB,n0,n1,n2⟩:=h;exact⟨zaa (zaa h0 n2.symm) n2.symm,zaa (zaa h1 n2.symm) n2.symm,by simp[go_sem,h2],by simp[go_sem,h3],by simp[go_sem,h4],fun o=>by simp[f0],fun o=>by simp[f1],(hB.setCell (p:=⟨H,0,none⟩) n1 _).setCell (p:=⟨H,1,none⟩) n1 _,n0,n1,n2⟩
theorem LH.high3 {w0 W:Wo} {L H:Nat} {x2 z2 x3 z3 u:K} (h:LH w0 L H x2 z2 x3 z3 u W) (a b:K):LH w0 L H x2 z2 a b u (((W.setCell ⟨H,0,none⟩ (.string (ek a))).setCell ⟨H,1,none⟩ (.string (ek b))).setCell ⟨H,2,none⟩ (.string (ek u))):=by
 obtain⟨h0,h1,h2,h3,h4,f0,f1,hB,n0,n1,n2⟩:=h;exact⟨zaa (zaa (zaa h0 n2.symm) n2.symm) n2.symm,zaa (zaa (zaa h1 n2.symm) n2.symm) n2.symm,by simp[go_sem,h2],by simp[go_sem,h3],by simp[go_sem,h4],fun o=>by simp[f0],fun o=>by simp[f1],((hB.setCell (p:=⟨H,0,none⟩) n1 _).setCell (p:=⟨H,1,none⟩) n1 _).setCell (p:=⟨H,2,none⟩) n1 _,n0,n1,n2⟩
def crs (c:Nat) (x2 z2 x3 z3:K):(K×K)×(K×K):=if c=1 then ((x3,z3),(x2,z2)) else ((x2,z2),(x3,z3))
theorem zjT {u x2 z2 x3 z3:K} {b:Nat} (hb:b < 2):crs b (zau u (x2,z2) (x3,z3)).1.1 (zau u (x2,z2) (x3,z3)).1.2 (zau u (x2,z2) (x3,z3)).2.1 (zau u (x2,z2) (x3,z3)).2.2=nxt u b (crs b x2 z2 x3 z3):=by
 rcases (by omega:b=0\/b=1) with rfl|rfl <;> rfl
theorem zhA {u x2 z2 x3 z3:K} {n b:Nat} (hn:n < 2) (hb:b < 2) (h:n≠b):crs b (zau u (x3,z3) (x2,z2)).1.1 (zau u (x3,z3) (x2,z2)).1.2 (zau u (x3,z3) (x2,z2)).2.1 (zau u (x3,z3) (x2,z2)).2.2=nxt u b (crs n x2 z2 x3 z3):=by
 rcases (by omega:b=0\/b=1) with rfl|rfl <;> rcases (by omega:n=0\/n=1) with rfl|rfl <;> first|exact absurd rfl h|rfl
theorem zjU (u:K) (k m:Nat) (h:m+1<=255):run u k (255 - m)=nxt u (k / 2 ^ m % 2) (run u k (255 - (m+1))):=by
 rw[show 255 - m=(255 - (m+1))+1 by omega];show nxt u (k / 2 ^ (254 - (255 - (m+1))) % 2) (run u k (255 - (m+1)))=_
 rw[show 254 - (255 - (m+1))=m by omega]
theorem zjV (x:UInt8) (r:Nat):bits .and .u8 ((x.toNat:Int) / 2 ^ r) 1=((x.toNat / 2 ^ r % 2:Nat):Int):=by
 have h:=x.toNat_lt;have e0:(x.toNat:Int) / 2 ^ r=((x.toNat / 2 ^ r:Nat):Int):=by simp
 have hlt:x.toNat / 2 ^ r < 256:=Nat.lt_of_le_of_lt (Nat.div_le_self _ _) (by omega);rw[e0];generalize x.toNat / 2 ^ r=y at *;have:=bits_mask .u8 8 (by decide) wraps_u8 1 (by decide) (y:Int) (by omega) (by omega);rw[show (2:Int) ^ 1 - 1=1 by decide] at this;rw[this];omega
theorem zhB (s:Ba) (hs:s.size=32) (u:K) (w:Wo) :
  Cl 109 #[.string s,.string (ek u)] w fun e w'=>e = .returned (.string (ek (lad (num s.data.toList) u)))/\Below w.heap.size w w':=by
 go_enter Tryz.func109, Tryz.ntmps109;go_wp2_with fail;refine cM (zaV 1 1 rfl (by omega) _) ?_;rintro e w1 ⟨rfl,hb⟩;have B1:Hid (Below w.heap.size w w1):=hb;clear hb;rw[show enc 1=ek 1 from rfl];go_wp2_with fail;refine cM (zaV 0 0 rfl (by omega) _) ?_;rintro e w2 ⟨rfl,hb⟩;have B2:Hid (Below w.heap.size w w2):=chain B1.out hb;clear hb;rw[show enc 0=ek 0 from rfl];go_wp2_with fail;refine cM (zaV 1 1 rfl (by omega) _) ?_;rintro e w3 ⟨rfl,hb⟩;rw[show enc 1=ek 1 from rfl];have L0:Hid (LH w w2.heap.size w3.heap.size 1 0 u 1 u (w3.alloc (.cells #[.string (ek u),.string (ek 1),.string (ek u)] 277))):=by
  have bb:Below w.heap.size w w3:=chain (B2.out.alloc B2.out.size _) hb;have k0:w3.cell? ⟨w2.heap.size,0,none⟩=some (.string (ek 1)):=cell_later hb (by simp[go_sem]);have k1:w3.cell? ⟨w2.heap.size,1,none⟩=some (.string (ek 0)):=cell_later hb (by simp[go_sem]);have hl:w2.heap.size < w3.heap.size:=World.block_lt_of_cell? _ _ k0;have kf:∀o,w3.frozen? ⟨w2.heap.size,o,none⟩=false:=fun o=>(zae hb (by simp)).trans (by simp[go_sem])
  refine⟨zab k0,zab k1,by simp[go_sem],by simp[go_sem],by simp[go_sem],fun o => ?_,fun o=>by simp[go_sem],bb.alloc bb.size _,B2.out.size,bb.size,by omega⟩;rw[World.frozen?_alloc_past _ _ _ hl];exact kf o
 clear hb;go_wp2;obtain⟨L,hL⟩:∃L,w2.heap.size=L:=⟨_,rfl⟩;obtain⟨H,hH⟩:∃L,w3.heap.size=L:=⟨_,rfl⟩;obtain⟨W,hW⟩:∃W,w3.alloc (.cells #[.string (ek u),.string (ek 1),.string (ek u)] 277)=W:=⟨_,rfl⟩;rw[hW] at L0;rw[hL,hH] at L0;rw[hW,hL,hH];clear hW hL hH B1 B2;have hl:Hid (s.data.toList.length=32):=by show s.data.toList.length=32;simpa using hs
 go_loopw [7,8] (fun c i wr=>∃(n t:Nat) (x2 z2 x3 z3:K),c = .int .u8 n/\i = .int .i64 ((t:Int) - 1)/\n < 2/\t<=255/\Hid (LH w L H x2 z2 x3 z3 u wr/\crs n x2 z2 x3 z3=run u (num s.data.toList) (255 - t))) (fun _ i _=>(intOf i+1).toNat)
 case atStart =>
  exact⟨0,255,1,0,u,1,rfl,rfl,by omega,by omega,L0.out,rfl⟩
 case round =>
  obtain⟨n,t,x2,z2,x3,z3,rfl,rfl,hn,ht,I⟩:=hrel;obtain⟨q0,q1,q2,q3,q4,f0,f1,-⟩:=I.out.1;by_cases h0:t=0
  ·subst h0
   have e1:((0:Nat):Int) - 1 = -1:=by omega
   rw[e1];clear e1;have nLH:¬L=H:=I.out.1.2.2.2.2.2.2.2.2.2.2;have nHL:¬H=L:=fun e=>nLH e.symm
   by_cases hn1:n=1
   ·subst hn1
    have FIN:Hid (lad (num s.data.toList) u=x3*zhu z3):=by
     have h:=I.out.2;show (run u (num s.data.toList) (255 - 0)).1.1*zhu (run u (num s.data.toList) (255 - 0)).1.2=_
     rw[<-h];rfl
    go_wp2_with fail;refine cM (zdZ x3 z3 _) ?_;rintro e w5 ⟨rfl,hb⟩;have B5:Hid (Below w.heap.size w w5):=chain ((I.out.1.low x3 z3).high x2 z2).2.2.2.2.2.2.2.1 hb;clear hb;go_wp2;go_ret;exact⟨by rw[FIN.out];rfl,B5.out⟩
   ·have hn0:n=0:=by omega
    subst hn0;have FIN:Hid (lad (num s.data.toList) u=x2*zhu z2):=by
     have h:=I.out.2;show (run u (num s.data.toList) (255 - 0)).1.1*zhu (run u (num s.data.toList) (255 - 0)).1.2=_
     rw[<-h];rfl
    clear hn1;go_wp2_with fail;refine cM (zdZ x2 z2 _) ?_;rintro e w5 ⟨rfl,hb⟩;have B5:Hid (Below w.heap.size w w5):=chain I.out.1.2.2.2.2.2.2.2.1 hb;clear hb;go_wp2;go_ret;exact⟨by rw[FIN.out];rfl,B5.out⟩
  ·obtain⟨m,rfl⟩:∃m,t=m+1:=⟨t - 1,by omega⟩
   have e1:((m+1:Nat):Int) - 1=(m:Int):=by omega
   rw[e1];clear e1 h0;have hms:m / 8 < s.size:=by rw[hs];omega
   obtain⟨b,hb⟩:∃b,num s.data.toList / 2 ^ m % 2=b:=⟨_,rfl⟩;have hb2:b < 2:=by rw[<-hb];exact Nat.mod_lt _ (by decide)
   have hbit:bits .and .u8 ((s[m / 8].toNat:Int) / 2 ^ (m % 8)) 1=(b:Int):=by
    rw[zjV,<-hb,<-zoG _ m (by have:=hl.out;omega)];rfl
   have RN:Hid (run u (num s.data.toList) (255 - m)=nxt u b (crs n x2 z2 x3 z3)):=by
    show _=_;rw[I.out.2,zjU u _ m (by omega),hb]
   have nLH:¬L=H:=I.out.1.2.2.2.2.2.2.2.2.2.2;have nHL:¬H=L:=fun e=>nLH e.symm
   clear hb;by_cases hnb:n=b
   ·subst hnb
    go_wp2_with fail;refine cM (zd0 x2 z2 x3 z3 u _) ?_;rintro e w5 ⟨rfl,hb⟩;have L5:Hid (LH w L H x2 z2 x3 z3 u w5):=I.out.1.later hb;clear hb q0 q1 q2 q3 q4 f0 f1;obtain⟨q0,q1,q2,q3,q4,f0,f1,-⟩:=L5.out;have RN':Hid (crs n (zau u (x2,z2) (x3,z3)).1.1 (zau u (x2,z2) (x3,z3)).1.2 (zau u (x2,z2) (x3,z3)).2.1 (zau u (x2,z2) (x3,z3)).2.2=run u (num s.data.toList) (255 - m)):=(zjT hn).trans RN.out.symm;generalize (zau u (x2,z2) (x3,z3)).1.1=y2 at *;generalize (zau u (x2,z2) (x3,z3)).1.2=y3 at *;generalize (zau u (x2,z2) (x3,z3)).2.1=y4 at *;generalize (zau u (x2,z2) (x3,z3)).2.2=y5 at *;go_wp2;go_roundw
    case rel=>exact⟨n,m,y2,y3,y4,y5,rfl,by go_num,hn,by omega,(L5.out.low y2 y3).high3 y4 y5,RN'.out⟩
    case measure=>simp[intOf]
   ·have hne:((n:Int) != (b:Int))=true:=by simp;omega
    go_wp2_with fail;refine cM (zd0 x3 z3 x2 z2 u _) ?_;rintro e w5 ⟨rfl,hb⟩;have L5:Hid (LH w L H x3 z3 x2 z2 u w5):=((I.out.1.low x3 z3).high x2 z2).later hb;clear hb q0 q1 q2 q3 q4 f0 f1;obtain⟨q0,q1,q2,q3,q4,f0,f1,-⟩:=L5.out;have RN':Hid (crs b (zau u (x3,z3) (x2,z2)).1.1 (zau u (x3,z3) (x2,z2)).1.2 (zau u (x3,z3) (x2,z2)).2.1 (zau u (x3,z3) (x2,z2)).2.2=run u (num s.data.toList) (255 - m)):=(zhA hn hb2 hnb).trans RN.out.symm;generalize (zau u (x3,z3) (x2,z2)).1.1=y2 at *;generalize (zau u (x3,z3) (x2,z2)).1.2=y3 at *;generalize (zau u (x3,z3) (x2,z2)).2.1=y4 at *;generalize (zau u (x3,z3) (x2,z2)).2.2=y5 at *;go_wp2;go_roundw
    case rel=>exact⟨b,m,y2,y3,y4,y5,rfl,by go_num,hb2,by omega,(L5.out.low y2 y3).high3 y4 y5,RN'.out⟩
    case measure=>simp[intOf]
def tm (k u:Ba):K:=lad (clampN (num k.data.toList)) (ptN (num u.data.toList))
theorem Times_ok (k u:Ba) (hk:k.size=32) (hu:u.size=32) (w:Wo) :
  Cl 62 #[.string k,.string u] w fun e w'=>e = .returned (.tuple #[.string (ek (tm k u)),.int .i64 0])/\Bw w w':=by
 have hd:decide (u.size=32)=true:=by simpa using hu
 have CL:Hid (∀w,Cl 109 #[.string (enc (clampN (num k.data.toList))),.string (ek (ptN (num u.data.toList)))] w fun e w'=>e = .returned (.string (ek (tm k u)))/\Bw w w'):=fun w=>by
  have h:=zhB (enc (clampN (num k.data.toList))) (zby _) (ptN (num u.data.toList)) w;rw[zcd (zhw _)] at h;exact h
 go_enter Tryz.func62, Tryz.ntmps62;go_wp2_with fail;refine cM (zjS k hk _) ?_;rintro e w1 ⟨rfl,hb⟩;have B1:Hid (Bw w w1):=hb;clear hb;go_wp2_with fail;refine cM (zcJ u w1.heap.size _ (by simp[go_sem])) ?_;rintro e w2 ⟨rfl,hb⟩;rw[hd];have B2:Hid (Bw w w2):=chain (B1.out.alloc B1.out.size _) hb;clear hb;go_wp2_with fail;refine cM (zd1 u hu _) ?_;rintro e w3 ⟨rfl,hb⟩;have B3:Hid (Bw w w3):=chain B2.out hb;clear hb;go_wp2_with fail;refine cM (CL.out _) ?_;rintro e w4 ⟨rfl,hb⟩;have B4:Hid (Bw w w4):=chain B3.out hb;clear hb;go_wp2;go_ret2;exact⟨rfl,B4.out⟩
theorem zwP {a b:K} (h:ek a=ek b):a=b:=Fin.ext (zwi (Nat.lt_trans a.isLt zr1) (Nat.lt_trans b.isLt zr1) h)
theorem zmx:ptN (num (enc 9).data.toList)=9:=by rw[zcd (by decide)];decide +kernel
theorem zqx (a:K):ptN (num (ek a).data.toList)=a:=by
 unfold ek;rw[zcd (Nat.lt_trans a.isLt zr1)];apply Fin.ext;show a.val % 2 ^ 255 % q=a.val
 have h:=a.isLt;have h2:q < 2 ^ 255:=by decide
 have e1:a.val % 2 ^ 255=a.val:=Nat.mod_eq_of_lt (by omega);rw[e1,Nat.mod_eq_of_lt h]
def pub (k:Ba):K:=lad (clampN (num k.data.toList)) 9
theorem zoK (k:Ba):tm k (enc 9)=pub k:=by unfold tm pub;rw[zmx]
theorem Public_ok (k:Ba) (hk:k.size=32) (w:Wo) :
  Cl 31 #[.string k] w fun e w'=>e = .returned (.tuple #[.string (ek (pub k)),.int .i64 0])/\Bw w w':=by
 have TM:Hid (∀w,Cl 62 #[.string k,.string (enc 9)] w fun e w'=>e = .returned (.tuple #[.string (ek (pub k)),.int .i64 0])/\Bw w w'):=fun w=>by
  have h:=Times_ok k (enc 9) hk (zby _) w;rw[zoK] at h;exact h
 go_enter Tryz.func31, Tryz.ntmps31;go_wp2_with fail;refine cM (zaV 9 9 rfl (by omega) _) ?_;rintro e w1 ⟨rfl,hb⟩;have B1:Hid (Bw w w1):=hb;clear hb;go_wp2_with fail;refine cM (TM.out _) ?_;rintro e w2 ⟨rfl,hb⟩;have B2:Hid (Bw w w2):=chain B1.out hb;clear hb;go_wp2;go_ret2;exact⟨rfl,B2.out⟩
theorem Shared_ok (k u:Ba) (hk:k.size=32) (hu:u.size=32) (h0:tm k u≠0) (w:Wo) :
  Cl 240 #[.string k,.string u] w fun e w'=>e = .returned (.tuple #[.string (ek (tm k u)),.int .i64 0])/\Bw w w':=by
 have TM:Hid (∀w,Cl 62 #[.string k,.string u] w fun e w'=>e = .returned (.tuple #[.string (ek (tm k u)),.int .i64 0])/\Bw w w'):=fun w=>Times_ok k u hk hu w
 have hne:((ek (tm k u)).toList == (enc 0).toList)=false:=by
  have:¬ek (tm k u)=ek 0:=fun e=>h0 (zwP e)
  rw[beq_eq_false_iff_ne];intro e;rw[ByteArray.toList_eq,ByteArray.toList_eq] at e;exact this (ByteArray.ext (Array.toList_inj.1 e))
 generalize ek (tm k u)=X at *;go_enter Tryz.func240, Tryz.ntmps240;go_wp2_with fail;refine cM (TM.out _) ?_;rintro e w1 ⟨rfl,hb⟩;have B1:Hid (Bw w w1):=hb;clear hb;go_wp2_with fail;refine cM (zaV 0 0 rfl (by omega) _) ?_;rintro e w2 ⟨rfl,hb⟩;have B2:Hid (Bw w w2):=chain B1.out hb;clear hb;go_wp2;go_ret2;exact⟨rfl,B2.out⟩
theorem Shared_weak (k u:Ba) (hk:k.size=32) (hu:u.size=32) (h0:tm k u=0) (w:Wo) :
  Cl 240 #[.string k,.string u] w fun e w'=>e = .returned (.tuple #[.string ⟨#[]⟩,.int .i64 20])/\Bw w w':=by
 have TM:Hid (∀w,Cl 62 #[.string k,.string u] w fun e w'=>e = .returned (.tuple #[.string (enc 0),.int .i64 0])/\Bw w w'):=fun w=>by
  have h:=Times_ok k u hk hu w;rw[h0] at h;exact h
 go_enter Tryz.func240, Tryz.ntmps240;go_wp2_with fail;refine cM (TM.out _) ?_;rintro e w1 ⟨rfl,hb⟩;have B1:Hid (Bw w w1):=hb;clear hb;go_wp2_with fail;refine cM (zaV 0 0 rfl (by omega) _) ?_;rintro e w2 ⟨rfl,hb⟩;have B2:Hid (Bw w w2):=chain B1.out hb;clear hb;go_wp2;go_ret2;exact⟨rfl,B2.out⟩
end Go.Proofs.YtjcppbhgjchjaaaGreatDoor.Crv
namespace Go.Proofs.YtjcppbhgjchjaaaGreatDoor.Crv
open Go.RowKit Go.Proofs.Fd
def cloneAt:Go.Shelf.Ren:=⟨fun _ => 79, fun t=>if t=3 then 3 else if t=4 then 4 else if t=5 then 5 else if t=9 then 9 else if t=37 then 99 else if t=47 then 247 else 0, fun n=>n⟩
theorem cloneLies:LaysPu.n25 Tryz.prog cloneAt :=
 { mixed:=by kernel_rfl,f25:=by kernel_rfl,t0:=by kernel_rfl,a0:=fun _=>by kernel_rfl,z0:=fun _=>by kernel_rfl,v0:=fun _=>by kernel_rfl,i0:=by kernel_rfl,t3:=by kernel_rfl,a3:=fun _=>by kernel_rfl,z3:=fun _=>by kernel_rfl,v3:=fun _=>by kernel_rfl,i3:=by kernel_rfl,t4:=by kernel_rfl,a4:=fun _=>by kernel_rfl,z4:=fun _=>by kernel_rfl,v4:=fun _=>by kernel_rfl,i4:=by kernel_rfl,t5:=by kernel_rfl,a5:=fun _=>by kernel_rfl,z5:=fun _=>by kernel_rfl,v5:=fun _=>by kernel_rfl,i5:=by kernel_rfl,t9:=by kernel_rfl,a9:=fun _=>by kernel_rfl,z9:=fun _=>by kernel_rfl,v9:=fun _=>by kernel_rfl,i9:=by kernel_rfl,t37:=by kernel_rfl,a37:=fun _=>by kernel_rfl,z37:=fun _=>by kernel_rfl,v37:=fun _=>by kernel_rfl,i37:=by kernel_rfl,t47:=by kernel_rfl,a47:=fun _=>by kernel_rfl,z47:=fun _=>by kernel_rfl,v47:=fun _=>by kernel_rfl,i47:=by kernel_rfl }
theorem clone_in (s:Ba) (hs:s.size<=281474976710656) (w:Wo) :
  Cl 79 #[.string s] w fun e w'=>e = .returned (.string s)/\Bw w w':=AnyPu.stringslite_Clone cloneLies s w hs
theorem clone_any (s:Ba) (hs:s.size<=281474976710656) (w:Wo) :
  Cl 46 #[.string s] w fun e w'=>e = .returned (.string s)/\Bw w w':=by
 go_enter Tryz.func46, Tryz.ntmps46;go_wp2_with fail;refine cM (clone_in s hs _) ?_;rintro e w1 ⟨rfl,hb⟩;have B1:Hid (Bw w w1):=hb;clear hb;go_wp2;go_ret;exact⟨rfl,B1.out⟩
end Go.Proofs.YtjcppbhgjchjaaaGreatDoor.Crv
namespace Go.Proofs.YtjcppbhgjchjaaaGreatDoor.Crv
open Go.RowKit Go.Proofs.Fd Go.Proofs.Ed
def chn:List Ba->Ba->Option Ba
 | [],u=>some u
 | k::r,u=>if tm k u=0 then none else chn r (ek (tm k u))
def och:Option Ba->Array Value
 | some v=>#[.string v,.int .i64 0]
 | none=>#[.string ⟨#[]⟩,.int .i64 20]
theorem ztE (ks:List Ba) (u:Ba) (j:Nat) (h:chn (ks.take j) u=none):chn ks u=none:=by
 induction ks generalizing u j with
 | nil=>simp[chn] at h
 | cons k r ih =>
  cases j with
  | zero=>simp[chn] at h
  | succ j =>
   simp only[List.take_succ_cons,chn] at h ⊢
   split
   ·rfl
   ·rename_i hne;rw[if_neg hne] at h;exact ih _ j h
theorem zvn (ks:List Ba) (u v:Ba) (j:Nat) (hj:j < ks.length) (h:chn (ks.take j) u=some v):chn (ks.take (j+1)) u=if tm ks[j] v=0 then none else some (ek (tm ks[j] v)):=by
 induction ks generalizing u j with
 | nil=>simp at hj
 | cons k r ih =>
  cases j with
  | zero =>
   simp only[List.take_zero,chn,Option.some.injEq] at h;subst h;simp[chn]
  | succ j =>
   simp only[List.take_succ_cons,chn] at h ⊢
   split at h
   ·cases h
   ·rename_i hne
    rw[if_neg hne]
    simpa using ih _ j (by simpa using hj) h
theorem chn_size (ks:List Ba) (u v:Ba) (hu:u.size=32) (h:chn ks u=some v):v.size=32:=by
 induction ks generalizing u with
 | nil=>simp only[chn,Option.some.injEq] at h;rw[<-h];exact hu
 | cons k r ih =>
  simp only[chn] at h
  split at h
  ·cases h
  ·exact ih _ (ek_size _) h
theorem wh_mem {ks:List Ba} (h:wh ks=true) (j:Nat) (hj:j < ks.length):ks[j].size=32:=by
 unfold wh at h;rw[List.all_eq_true] at h
 simpa using h _ (List.getElem_mem hj)
theorem Chain_walk (u:Ba) (hu:u.size=32) (a:Option Addr) (ks:List Ba) (n cap:Nat) (hn:Hid (ks.length=n)) (hn16:n<=16) (hw:Hid (wh ks=true)) (w:Wo) (hc:Hid (StrAt w a ks)) :
  Cl 178 #[.string u,.slice a n cap] w fun e w'=>e = .returned (.tuple (och (chn ks u)))/\Bw w w':=by
 have hd:decide (u.size=32)=true:=by simpa using hu
 have hg:¬(16:Int) < (n:Int):=by omega
 go_enter Tryz.func178, Tryz.ntmps178;go_wp2_with fail;refine cM (zcJ u w.heap.size _ (by simp[go_sem])) ?_;rintro e w1 ⟨rfl,hb⟩;rw[hd];have B1:Hid (Bw w w1):=chain ((bQ _ _).alloc (nL _) _) hb;clear hb;go_wp2_with fail;refine cM (whole_any a ks n cap hn (by omega) _ (hc.out.later B1.out)) ?_;rintro e w2 ⟨rfl,hb⟩;rw[hw.out];have B2:Hid (Bw w w2):=chain B1.out hb;clear hb;go_wp2_with fail;refine cM (clone_any u (by omega) _) ?_;rintro e w3 ⟨rfl,hb⟩;have B3:Hid (Bw w w3):=chain B2.out hb;clear hb;go_wp2;go_loopw [6,27] (fun at_ i wr=>∃(j:Nat) (v:Ba),j<=n/\i = .int .i64 j/\at_ = .string v/\Hid (v.size=32/\chn (ks.take j) u=some v/\Bw w wr)) (fun _ i _=>n - (intOf i).toNat)
 case atStart=>exact⟨0,u,Nat.zero_le _,rfl,rfl,hu,rfl,B3.out⟩
 case round =>
  obtain⟨j,v,hj,rfl,rfl,I⟩:=hrel;by_cases hlt:j < n
  ·have hk':j < ks.length:=by have:=hn.out;omega
   obtain⟨b,o,rfl,hcell⟩:=StrAt.later hc.out I.out.2.2 j hk';have HT:=zvn ks u v j hk' I.out.2.1;have HK:Hid (ks[j].size=32):=wh_mem hw.out j hk';generalize ks[j]=k at *;by_cases h0:tm k v=0
   ·rw[if_pos h0] at HT
    have FIN:Hid (chn ks u=none):=ztE ks u (j+1) HT;have H0:Hid (tm k v=0):=h0;clear HT h0;go_wp2_with fail;refine cM (Shared_weak k v HK.out I.out.1 H0.out _) ?_;rintro e w5 ⟨rfl,hb⟩;have B5:Hid (Bw w w5):=chain I.out.2.2 hb;clear hb;go_wp2;go_ret2;exact⟨by rw[FIN.out];rfl,B5.out⟩
   ·rw[if_neg h0] at HT
    have H0:Hid (tm k v≠0/\chn (ks.take (j+1)) u=some (ek (tm k v))):=⟨h0,HT⟩;clear HT h0;go_wp2_with fail;refine cM (Shared_ok k v HK.out I.out.1 H0.out.1 _) ?_;rintro e w5 ⟨rfl,hb⟩;have B5:Hid (Bw w w5):=chain I.out.2.2 hb;clear hb;go_wp2;go_roundw
    case rel=>exact⟨j+1,ek (tm k v),by omega,by go_num,rfl,ek_size _,H0.out.2,B5.out⟩
    case measure=>simp[intOf];omega
  ·have hkn:j=n:=by omega
   subst hkn;have FIN:Hid (chn ks u=some v):=by
    have:=I.out.2.1;rw[List.take_of_length_le (by have:=hn.out;omega)] at this;exact this
   go_wp2;go_ret2;exact⟨by rw[FIN.out];rfl,I.out.2.2⟩
end Go.Proofs.YtjcppbhgjchjaaaGreatDoor.Crv
namespace Go.Proofs.Ed
open Go.Proofs.Fd
def itr {α β:Type} (f:α->β->β):List α->β->β
 | [],u=>u
 | k::ks,u=>itr f ks (f k u)
theorem zhC {α β:Type} (f:α->β->β) (u:β):itr f [] u=u:=rfl
theorem zca {α β:Type} (f:α->β->β) (k:α) (ks:List α) (u:β):itr f (k::ks) u=itr f ks (f k u):=rfl
theorem zmy {α β:Type} (f:α->β->β) (a b:List α) (u:β):itr f (a++b) u=itr f b (itr f a u):=by
 induction a generalizing u with
 | nil=>rfl
 | cons k a ih=>rw[List.cons_append,zca,zca,ih]
end Go.Proofs.Ed
