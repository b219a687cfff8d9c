/- A part of the walk. -/
import Derived.Test.YtjcppbhgjchjaaaGreatDoorZr3G18
set_option maxHeartbeats 8000000
set_option maxRecDepth 20000
namespace Go.Proofs.Cc
theorem ztm (k n:List UInt8) (c:UInt32):(zr6 k n c).set 12 (c+1)=zr6 k n (c+1):=by
 unfold zr6;rw[List.set_append_left _ _ (by simp[zsx]),List.set_append_right _ _ (by simp[zsx])];simp[zsx]
theorem zuF (k n:List UInt8) (c:UInt32):(zr6 k n c).getD 12 0=c:=by
 unfold zr6;rw[List.getD_eq_getElem?_getD,List.getElem?_append_left (by simp[zsx]),List.getElem?_append_right (by simp[zsx])];simp[zsx]
def zsE (T S:List UInt8) (o:Nat):List UInt8:=(za0 T S).take o++T.drop o
theorem ztn (T S:List UInt8):zsE T S 0=T:=by simp[zsE]
theorem ztd (T S:List UInt8) (o:Nat) (h:T.length<=S.length) (ho:o<=T.length):(zsE T S o).length=T.length:=by
 unfold zsE;rw[List.length_append,List.length_take,List.length_drop,zaQ _ _ h];omega
theorem ztX (T S:List UInt8) (h:T.length<=S.length):zsE T S T.length=za0 T S:=by
 unfold zsE;rw[List.take_of_length_le (by rw[zaQ _ _ h];exact nL _),List.drop_length,List.append_nil]
theorem zte (T S:List UInt8) (o:Nat) (h:T.length<=S.length) (ho:o < T.length):(zsE T S o)[o]?=some T[o]:=by
 unfold zsE;have e:((za0 T S).take o).length=o:=by rw[List.length_take,zaQ _ _ h];omega
 rw[List.getElem?_append_right (by omega),e,Nat.sub_self,List.getElem?_drop,Nat.add_zero,List.getElem?_eq_getElem ho]
theorem zsZ (T S:List UInt8) (o:Nat) (h:T.length<=S.length) (ho:o < T.length) (b:UInt8) (hb:S[o]?=some b):(zsE T S o).set o (T[o] ^^^ b)=zsE T S (o+1):=by
 unfold zsE;have e:((za0 T S).take o).length=o:=by rw[List.length_take,zaQ _ _ h];omega
 rw[List.set_append_right _ _ (by omega),e,Nat.sub_self,List.drop_eq_getElem_cons ho,List.set_cons_zero];have hx:(za0 T S)[o]?=some (T[o] ^^^ b):=by
  unfold za0;rw[List.getElem?_zipWith,List.getElem?_eq_getElem ho,hb]
 rw[List.take_add_one,hx];simp
theorem zuG (k n:List UInt8) (c:UInt32) (N i j:Nat) (hj:j < 64) (h:64*i+j < N):(zqb k n c N)[64*i+j]?=(blk k n (c+UInt32.ofNat i))[j]?:=by
 rw[<-ztF k n c N ((i+1)+(N+63) / 64) (by omega),List.getElem?_take_of_lt h,zvs,List.getElem?_append_left (by rw[zkj];omega),zhV,List.getElem?_append_right (by rw[zkj];omega),zkj];congr 1;omega
theorem zs6 (c:UInt32) (i:Nat):c+UInt32.ofNat i+1=c+UInt32.ofNat (i+1):=by
 rw[UInt32.add_assoc];congr 1;apply UInt32.toNat_inj.1;rw[UInt32.toNat_add,UInt32.toNat_ofNat',UInt32.toNat_ofNat'];show (i % 2 ^ 32+1) % 2 ^ 32=_
 omega
end Go.Proofs.Cc
namespace Go.Proofs.YtjcppbhgjchjaaaGreatDoor
open Go.RowKit Go.Proofs.Fd Go.Proofs.Hs Go.Proofs.Cc
theorem BytesAt.stored {w:Wo} {b:Nat} {l0 l:List UInt8} (h:BytesAt w b l0) (hl:l.length=l0.length):BytesAt (w.setCells b 0 (zaw l)) b l:=fun j hj=>by
 have h1:=World.rangeAt_setCells_same w b 0 (zaw l) (by rw[zsO,hl];exact h.bthere _ rfl) j (.int .u8 (l[j].toNat:Int)) (by simp[zaw,hj]);rw[Nat.zero_add] at h1;exact⟨h1,by rw[World.frozen?_setCells];exact (h j (by omega)).2⟩
theorem QAt.below {w:Wo} {b:Nat} {l:List UInt32} (h:QAt w b l) (hl:0 < l.length):b < w.heap.size:=World.block_lt_of_cell? _ _ (h 0 hl).1
def zuH:Value->Nat | .slice _ n _=>n|_=>0
theorem zwo (a b:UInt8):bits .xor .u8 (a.toNat:Int) (b.toNat:Int)=((a ^^^ b).toNat:Int):=by
 have h1:a.toNat < 2 ^ 8:=a.toNat_lt;have h2:b.toNat < 2 ^ 8:=b.toNat_lt;have h3:a.toNat ^^^ b.toNat < 2 ^ 8:=Nat.xor_lt_two_pow h1 h2;rw[UInt8.toNat_xor];have e1:a.toNat % 2 ^ IntKind.u8.bits=a.toNat:=Nat.mod_eq_of_lt h1;have e2:b.toNat % 2 ^ IntKind.u8.bits=b.toNat:=Nat.mod_eq_of_lt h2;simp only[bits,BitVec.ofInt_natCast,BitVec.toNat_xor,BitVec.toNat_ofNat,e1,e2];rw[IntKind.wrap_u8];omega
set_option maxRecDepth 20000 in
theorem zvA (k n:List UInt8) (c:UInt32) (gb cap N:Nat) (T:List UInt8) (hN:Hid (T.length=N)) (hc:N<=cap) (hcap:cap<=9223372036854775807) (w:Wo) (hT:Hid (BytesAt w gb T)) (hgb:Hid (gb < w.heap.size)) :
  Cl 316 #[.agg (wcl (zr6 k n c)).toArray,.slice (some ⟨gb,0,none⟩) N cap] w fun e w'=>e = .returned (.tuple #[])/\BytesAt w' gb (za0 T (zqb k n c N))/\Below gb w w':=by
 obtain⟨S,hS⟩:∃S,zqb k n c N=S:=⟨_,rfl⟩;rw[hS];have HS:Hid (zqb k n c N=S/\T.length<=S.length):=⟨hS,by rw[<-hS,zfR,hN.out];exact nL _⟩;clear hS;go_enter Tryz.func316, Tryz.ntmps316;go_wp2;obtain⟨A,hA⟩:∃A,w.alloc (.cells (wcl (zr6 k n c)).toArray 370)=A:=⟨_,rfl⟩;obtain⟨g,hg⟩:∃g,w.heap.size=g:=⟨_,rfl⟩;have IA:Hid (QAt A g (zr6 k n (c+UInt32.ofNat 0))/\BytesAt A gb (zsE T S 0)/\Below gb w A):=by
  have q1:=QAt.new w (zr6 k n c) 370;rw[hA,hg] at q1;have hb:Below w.heap.size w A:=hA ▸ (bQ _ _).alloc (nL _) _;refine⟨?_,?_,hb.mono (Nat.le_of_lt hgb.out)⟩
  ·have:c+UInt32.ofNat 0=c:=by simp
   rw[this];exact q1
  ·rw[ztn];exact hT.out.later hb
 rw[hA]
 try rw[hg]
 have HG:Hid (gb < g/\g≠gb):=by have:=hgb.out;show _/\_;omega
 clear hA hg;go_loopw [1] (fun sl wr=>∃i o a:Nat,o<=N/\sl = .slice (some ⟨gb,a,none⟩) (N - o) (cap - o)/\Hid ((o=64*i\/o=N)/\(o < N->a=o)/\QAt wr g (zr6 k n (c+UInt32.ofNat i))/\BytesAt wr gb (zsE T S o)/\Below gb w wr)) (fun sl _=>zuH sl)
 case atStart=>exact⟨0,0,0,Nat.zero_le _,rfl,.inl rfl,fun _=>rfl,IA.out⟩
 case round =>
  obtain⟨i,o,a,ho,rfl,I⟩:=hrel;clear IA;by_cases hoN:o=N
  ·subst hoN
   have FI:Hid (BytesAt wr gb (za0 T S)/\Below gb w wr):=by
    obtain⟨-,-,-,h3,h4⟩:=I.out;rw[<-hN.out,ztX _ _ HS.out.2] at h3;exact⟨h3,h4⟩
   rw[Nat.sub_self];go_wp2;exact bodyPost_end (results_none Tryz.results316 _ _ _) rfl ⟨rfl,FI.out⟩
  ·have hlt:o < N:=by omega
   have J:Hid (o=64*i/\QAt wr g (zr6 k n (c+UInt32.ofNat i))/\BytesAt wr gb (zsE T S o)/\Below gb w wr):=by
    obtain⟨h1,-,h2⟩:=I.out;exact⟨h1.resolve_right hoN,h2⟩
   have hao:o=a:=(I.out.2.1 hlt).symm;subst hao;clear I hoN;obtain⟨r,hr⟩:∃r,N - o=r:=⟨_,rfl⟩;obtain⟨cr,hcr⟩:∃r,cap - o=r:=⟨_,rfl⟩;rw[hr,hcr];have r0:(0:Int) < (r:Int):=by omega
   have rc:r<=cr:=by omega
   have rc':(r:Int)<=(cr:Int):=by omega
   have crb:(cr:Int)<=9223372036854775807:=by omega
   obtain⟨C,hC⟩:∃C,c+UInt32.ofNat i=C:=⟨_,rfl⟩;obtain⟨cs,hcs⟩:∃cs,wcl (zr6 k n C)=cs:=⟨_,rfl⟩;have RG:Hid (wr.rangeAt g 0 cs/\cs.length=16):=by
    rw[<-hcs,<-hC];exact⟨J.out.2.1.range,by rw[zsX,zsG]⟩
   obtain⟨bs,hbs⟩:∃bs,zaw (blk k n C)=bs:=⟨_,rfl⟩;have BY:Hid (∀w,Cl 351 #[.agg cs.toArray] w fun e w'=>e = .returned (.agg bs.toArray)/\Below w.heap.size w w'):=fun w=>by
    rw[<-hcs,<-hbs,<-zwl];exact zuc _ (zsG _ _ _) w
   have HB:Hid (zaw (blk k n C)=bs/\c+UInt32.ofNat i=C):=⟨hbs,hC⟩;have HR:Hid (N - o=r/\cap - o=cr):=⟨hr,hcr⟩;clear hcs hbs hC hr hcr;go_wp2_with (first
    | (refine wpList_load_mid rfl 370 (.tmp 2) rfl g 0 rfl cs _ RG.out.1 Tryz.underlying370 rfl (by rw[RG.out.2];exact zsH) ?_))
   refine cM (BY.out _) ?_;rintro e w1 ⟨rfl,hb1⟩;clear BY RG;obtain⟨D,hD⟩:∃D,w1.alloc (.cells (Z64).toArray 117)=D:=⟨_,rfl⟩;obtain⟨gB,hgB⟩:∃g,w1.heap.size=g:=⟨_,rfl⟩;have ZD:=zxk w1 117;rw[hD,hgB] at ZD;have TH:Hid (D.there gB 0 64):=ZD.bthere 64 (by simp);have HL:Hid (bs.length=64/\bs.toArray.all (·.oneCell')=true):=by rw[<-HB.out.1];exact⟨by rw[zsO,zmH],all_oneCell_toArray (zs5 _)⟩
   obtain⟨V,hV⟩:∃V,D.setCells gB 0 bs.toArray.toList=V:=⟨_,rfl⟩;have HV:Hid (_=_):=hV;have IV:Hid (QAt V g (zr6 k n C)/\BytesAt V gb (zsE T S (o+0))/\BytesAt V gB (blk k n C)/\Below gb w V):=by
    obtain⟨-,h1,h2,h3⟩:=J.out;have bD:Below w1.heap.size w1 D:=hD ▸ (bQ _ _).alloc (nL _) _;have bV:Below w1.heap.size w1 V:=by rw[<-hV];exact below_setCells (by omega) _ _ _ bD
    have b2:Below wr.heap.size wr V:=chain hb1 bV;have gw:gb<=wr.heap.size:=Nat.le_trans (Nat.le_of_lt hgb.out) h3.size;rw[HB.out.2] at h1;refine⟨h1.later b2,h2.later b2,?_,h3.trans (b2.mono gw)⟩;have:=ZD.stored (l:=blk k n C) (by rw[zmH];simp);rw[HB.out.1] at this;rw[<-hV];exact this
   have HN2:Hid (gB≠gb/\gB≠g):=by
    obtain⟨-,h1,h2,h3⟩:=J.out;have a1:=h1.below (by rw[zsG];decide);have a2:=hb1.size;have a3:=HG.out;show _/\_
    omega
   clear hV ZD hb1;by_cases h64:64<=r
   ·have h64':(64:Int)<=(r:Int):=by omega
    go_wp2_with (first
     | (refine wpList_store_mid rfl 117 (.tmp 4) (.tmp 11) rfl gB 0 bs.toArray rfl rfl (by rw[List.size_toArray,HL.out.1];exact TH.out) (by rw[List.size_toArray,HL.out.1];exact zsY) HL.out.2 ?_;rw[HV.out]))
    go_loopw [16] (fun jv wx=>∃q:Nat,q<=64/\jv = .int .i64 (q:Int)/\Hid (QAt wx g (zr6 k n C)/\BytesAt wx gb (zsE T S (o+q))/\BytesAt wx gB (blk k n C)/\Below gb w wx)) (fun jv _=>64 - (intOf jv).toNat)
    case atStart=>exact⟨0,Nat.zero_le _,rfl,IV.out⟩
    case round =>
     obtain⟨q,hq,rfl,I⟩:=hrel;clear IV TH HL;by_cases hqM:q=64
     ·subst hqM
      rw[show ((64:Nat):Int)=64 from rfl];obtain⟨c12,f12⟩:=I.out.1.at 12 (by rw[zsG];decide);rw[zuF] at c12;have A1:IntKind.u32.wrap (tv C+1)=tv (C+1):=zc8 C 1;have A2:(tv C+1) % 4294967296=tv (C+1):=zbB C 1;have NX:Hid (QAt (wr.setCell ⟨g,12,none⟩ (.int .u32 (tv (C+1)))) g (zr6 k n (c+UInt32.ofNat (i+1)))/\BytesAt (wr.setCell ⟨g,12,none⟩ (.int .u32 (tv (C+1)))) gb (zsE T S (o+64))/\Below gb w (wr.setCell ⟨g,12,none⟩ (.int .u32 (tv (C+1))))):=by
       obtain⟨h1,h2,h3,h4⟩:=I.out;have h5:=h1.set 12 (C+1);rw[ztm] at h5;have hc:=zs6 c i;rw[HB.out.2] at hc;rw[<-hc];exact⟨h5,h2.other (a:=⟨g,12,none⟩) HG.out.2 _,h4.setCell (p:=⟨g,12,none⟩) (Nat.le_of_lt HG.out.1) _⟩
      clear I;go_wp2;obtain⟨HR1,HR2⟩:=HR.out;by_cases hcr:cr=64
      ·rw[if_pos hcr]
       exact⟨⟨i+1,o+64,o,by omega,by congr 1 <;> omega,.inr (by omega),fun h=>by omega,NX.out⟩,by simp only[zuH];omega⟩
      ·rw[if_neg hcr]
       exact⟨⟨i+1,o+64,o+64,by omega,by congr 1 <;> omega,.inl (by have:=J.out.1;omega),fun _=>rfl,NX.out⟩,by simp only[zuH];omega⟩
     ·have qm:(q:Int) < 64:=by omega
      have q64:(q:Int) < 64:=by omega
      have qr:(q:Int) < (r:Int):=by omega
      obtain⟨HR1,-⟩:=HR.out;have oT:o+q < T.length:=by rw[hN.out];omega
      have lT:=ztd T S (o+q) HS.out.2 (by omega);obtain⟨cx,fx⟩:=I.out.2.1 (o+q) (by rw[lT];exact oT);have ex:(zsE T S (o+q))[o+q]'(by rw[lT];exact oT)=T[o+q]:=by
       have:=zte T S (o+q) HS.out.2 oT;rw[List.getElem?_eq_getElem (by rw[lT];exact oT)] at this;exact Option.some.inj this
      rw[ex] at cx;have bq:q < (blk k n C).length:=by rw[zmH];omega
      obtain⟨cy,-⟩:=I.out.2.2.1 q bq;have SB:S[o+q]?=some (blk k n C)[q]:=by
       rw[<-HS.out.1,J.out.1,zuG k n c N i q (by omega) (by rw[<-J.out.1];have:=hN.out;omega),HB.out.2,List.getElem?_eq_getElem bq]
      have MS:Hid (_=_):=zsZ T S (o+q) HS.out.2 oT _ SB;clear ex SB;generalize T[o+q]=x at *;generalize (blk k n C)[q]=y at *;clear lT oT bq HR1;have XY:=zwo x y;have NX:Hid (QAt ((wr.setCell ⟨gb,o+q,none⟩ (.int .u8 ((x.toNat ^^^ y.toNat:Nat):Int))).drew) g (zr6 k n C)/\BytesAt ((wr.setCell ⟨gb,o+q,none⟩ (.int .u8 ((x.toNat ^^^ y.toNat:Nat):Int))).drew) gb (zsE T S (o+(q+1)))/\BytesAt ((wr.setCell ⟨gb,o+q,none⟩ (.int .u8 ((x.toNat ^^^ y.toNat:Nat):Int))).drew) gB (blk k n C)/\Below gb w ((wr.setCell ⟨gb,o+q,none⟩ (.int .u8 ((x.toNat ^^^ y.toNat:Nat):Int))).drew)):=by
       obtain⟨h1,h2,h3,h4⟩:=I.out;have e:zsE T S (o+(q+1))=(zsE T S (o+q)).set (o+q) (x ^^^ y):=MS.out.symm;rw[e];exact⟨h1.other (a:=⟨gb,o+q,none⟩) (Ne.symm HG.out.2) _,h2.set (o+q) (x ^^^ y) _ (by rw[UInt8.toNat_xor]),h3.other (a:=⟨gb,o+q,none⟩) (Ne.symm HN2.out.1) _,(h4.setCell (p:=⟨gb,o+q,none⟩) (nL _) _).drew⟩
      clear MS I;go_wp2;go_region;go_wp2;go_roundw
      case rel=>exact⟨q+1,by omega,by go_num,NX.out⟩
      case measure=>simp[intOf];omega
   ·have h64':(r:Int) < 64:=by omega
    have h64'':¬(64:Int)<=(r:Int):=by omega
    go_wp2_with (first
     | (refine wpList_store_mid rfl 117 (.tmp 4) (.tmp 11) rfl gB 0 bs.toArray rfl rfl (by rw[List.size_toArray,HL.out.1];exact TH.out) (by rw[List.size_toArray,HL.out.1];exact zsY) HL.out.2 ?_;rw[HV.out]))
    go_loopw [16] (fun jv wx=>∃q:Nat,q<=r/\jv = .int .i64 (q:Int)/\Hid (QAt wx g (zr6 k n C)/\BytesAt wx gb (zsE T S (o+q))/\BytesAt wx gB (blk k n C)/\Below gb w wx)) (fun jv _=>r - (intOf jv).toNat)
    case atStart=>exact⟨0,Nat.zero_le _,rfl,IV.out⟩
    case round =>
     obtain⟨q,hq,rfl,I⟩:=hrel;clear IV TH HL;by_cases hqM:q=r
     ·have hqM2:=hqM.symm
      subst hqM2;obtain⟨c12,f12⟩:=I.out.1.at 12 (by rw[zsG];decide);rw[zuF] at c12;have A1:IntKind.u32.wrap (tv C+1)=tv (C+1):=zc8 C 1;have A2:(tv C+1) % 4294967296=tv (C+1):=zbB C 1;have NX:Hid (QAt (wr.setCell ⟨g,12,none⟩ (.int .u32 (tv (C+1)))) g (zr6 k n (c+UInt32.ofNat (i+1)))/\BytesAt (wr.setCell ⟨g,12,none⟩ (.int .u32 (tv (C+1)))) gb (zsE T S (o+r))/\Below gb w (wr.setCell ⟨g,12,none⟩ (.int .u32 (tv (C+1))))):=by
       obtain⟨h1,h2,h3,h4⟩:=I.out;have h5:=h1.set 12 (C+1);rw[ztm] at h5;have hc:=zs6 c i;rw[HB.out.2] at hc;rw[<-hc];exact⟨h5,h2.other (a:=⟨g,12,none⟩) HG.out.2 _,h4.setCell (p:=⟨g,12,none⟩) (Nat.le_of_lt HG.out.1) _⟩
      clear I;go_wp2;obtain⟨HR1,HR2⟩:=HR.out;by_cases hcr:cr=r
      ·rw[if_pos hcr]
       exact⟨⟨i+1,o+r,o,by omega,by congr 1 <;> omega,.inr (by omega),fun h=>by omega,NX.out⟩,by simp only[zuH];omega⟩
      ·rw[if_neg hcr]
       exact⟨⟨i+1,o+r,o+r,by omega,by congr 1 <;> omega,.inr (by omega),fun _=>rfl,NX.out⟩,by simp only[zuH];omega⟩
     ·have qm:(q:Int) < (r:Int):=by omega
      have q64:(q:Int) < 64:=by omega
      have qr:(q:Int) < (r:Int):=by omega
      obtain⟨HR1,-⟩:=HR.out;have oT:o+q < T.length:=by rw[hN.out];omega
      have lT:=ztd T S (o+q) HS.out.2 (by omega);obtain⟨cx,fx⟩:=I.out.2.1 (o+q) (by rw[lT];exact oT);have ex:(zsE T S (o+q))[o+q]'(by rw[lT];exact oT)=T[o+q]:=by
       have:=zte T S (o+q) HS.out.2 oT;rw[List.getElem?_eq_getElem (by rw[lT];exact oT)] at this;exact Option.some.inj this
      rw[ex] at cx;have bq:q < (blk k n C).length:=by rw[zmH];omega
      obtain⟨cy,-⟩:=I.out.2.2.1 q bq;have SB:S[o+q]?=some (blk k n C)[q]:=by
       rw[<-HS.out.1,J.out.1,zuG k n c N i q (by omega) (by rw[<-J.out.1];have:=hN.out;omega),HB.out.2,List.getElem?_eq_getElem bq]
      have MS:Hid (_=_):=zsZ T S (o+q) HS.out.2 oT _ SB;clear ex SB;generalize T[o+q]=x at *;generalize (blk k n C)[q]=y at *;clear lT oT bq HR1;have XY:=zwo x y;have NX:Hid (QAt ((wr.setCell ⟨gb,o+q,none⟩ (.int .u8 ((x.toNat ^^^ y.toNat:Nat):Int))).drew) g (zr6 k n C)/\BytesAt ((wr.setCell ⟨gb,o+q,none⟩ (.int .u8 ((x.toNat ^^^ y.toNat:Nat):Int))).drew) gb (zsE T S (o+(q+1)))/\BytesAt ((wr.setCell ⟨gb,o+q,none⟩ (.int .u8 ((x.toNat ^^^ y.toNat:Nat):Int))).drew) gB (blk k n C)/\Below gb w ((wr.setCell ⟨gb,o+q,none⟩ (.int .u8 ((x.toNat ^^^ y.toNat:Nat):Int))).drew)):=by
       obtain⟨h1,h2,h3,h4⟩:=I.out;have e:zsE T S (o+(q+1))=(zsE T S (o+q)).set (o+q) (x ^^^ y):=MS.out.symm;rw[e];exact⟨h1.other (a:=⟨gb,o+q,none⟩) (Ne.symm HG.out.2) _,h2.set (o+q) (x ^^^ y) _ (by rw[UInt8.toNat_xor]),h3.other (a:=⟨gb,o+q,none⟩) (Ne.symm HN2.out.1) _,(h4.setCell (p:=⟨gb,o+q,none⟩) (nL _) _).drew⟩
      clear MS I;go_wp2;go_region;go_wp2;go_roundw
      case rel=>exact⟨q+1,by omega,by go_num,NX.out⟩
      case measure=>simp[intOf];omega
def zuI (k n:Ba) (c:Int):Int:=if k.size≠32\/n.size≠12 then 3 else if c < 0\/4294967295 < c then 1 else 0
theorem zto (k n:Ba) (c:Int) (h:k.size≠32\/n.size≠12):zuI k n c=3:=if_pos h
theorem zs7 (k n:Ba) (c:Int) (h1:k.size=32) (h2:n.size=12) (h:c < 0\/4294967295 < c):zuI k n c=1:=by
 unfold zuI;rw[if_neg (by omega),if_pos h]
theorem zuJ (k n:Ba) (c:Int) (h1:k.size=32) (h2:n.size=12) (h3:0<=c) (h4:c<=4294967295):zuI k n c=0:=by
 unfold zuI;rw[if_neg (by omega),if_neg (by omega)]
theorem zue (k n:Ba) (c:Int) (w:Wo) :
  Cl 314 #[.string k,.string n,.int .i64 c] w fun e w'=>e = .returned (.int .i64 (zuI k n c))/\w'=w:=by
 by_cases h1:k.size=32
 ·have g1:(k.size:Int)=32:=by omega
  by_cases h2:n.size=12
  ·have g2:(n.size:Int)=12:=by omega
   by_cases h3:c < 0
   ·have E:Hid (zuI k n c=1):=zs7 k n c h1 h2 (.inl h3)
    clear h1 h2;go_enter Tryz.func314, Tryz.ntmps314;go_wp2;go_ret;exact⟨by rw[E.out];rfl,rfl⟩
   ·have g3:0<=c:=by omega
    by_cases h4:4294967295 < c
    ·have E:Hid (zuI k n c=1):=zs7 k n c h1 h2 (.inr h4)
     clear h1 h2;go_enter Tryz.func314, Tryz.ntmps314;go_wp2;go_ret;exact⟨by rw[E.out];rfl,rfl⟩
    ·have E:Hid (zuI k n c=0):=zuJ k n c h1 h2 g3 (by omega)
     clear h1 h2;go_enter Tryz.func314, Tryz.ntmps314;go_wp2;go_ret;exact⟨by rw[E.out];rfl,rfl⟩
  ·have g2:¬(n.size:Int)=12:=by omega
   have E:Hid (zuI k n c=3):=zto k n c (.inr h2);clear h1;go_enter Tryz.func314, Tryz.ntmps314;go_wp2;go_ret;exact⟨by rw[E.out];rfl,rfl⟩
 ·have g1:¬(k.size:Int)=32:=by omega
  have E:Hid (zuI k n c=3):=zto k n c (.inl h1);go_enter Tryz.func314, Tryz.ntmps314;go_wp2;go_ret;exact⟨by rw[E.out];rfl,rfl⟩
theorem ztp (s:Ba) (hs:s.size<=140737488355328) (w:Wo):∃(cap:Nat) (W:Wo),(convert 9 99 (.string s)).run Tryz.prog w = .ok (.slice (some ⟨w.heap.size,0,none⟩) s.size cap) W
  /\ BytesAt W w.heap.size s.data.toList/\Bw w W/\s.size<=cap/\cap<=9223372036854775807/\w.heap.size < W.heap.size:=by
 have hm:grownCap w s.size 0 5 <= 9223372036854775807:=by
  have:=grownCap_le_maxLen w s.size 0 5 (by unfold maxLen;omega);unfold maxLen at this;omega
 refine⟨_,_,run_bytes_of_string (P:=Tryz.prog) w 9 99 5 s Tryz.underlying9 Tryz.underlying99 Tryz.underlying5, ?_,?_,?_,hm,?_⟩
 ·intro j hj
  have hj':j < s.data.size:=by simpa using hj
  generalize grownCap w s.size 0 5 = cap;have hc:=bytesRow_at s cap j hj';have hlt:j < (bytesRow s cap).size:=by
   obtain⟨h,_⟩:=Array.getElem?_eq_some_iff.1 hc;exact h
  refine⟨?_,?_⟩
  ·show (w.drew.alloc _).cell? ⟨w.drew.heap.size,j,none⟩=_
   rw[World.cell?_alloc_mark,hc];simp
  ·show (w.drew.alloc _).frozen? ⟨w.drew.heap.size,j,none⟩=false
   rw[World.frozen?_alloc_mark];have:¬(bytesRow s cap).size<=j:=by omega
   simp[this]
 ·exact (bQ _ w).drew.alloc (nL _) _
 ·exact grownCap_ge _ _ _ _
 ·show w.heap.size < (w.drew.alloc _).heap.size
  simp
theorem zwp (c:UInt32):IntKind.u32.wrap (tv c)=tv c:=zp9 _ (zwj c) (zwk c)
theorem zwT (c:UInt32):tv c % 4294967296=tv c:=by have:=zwj c;have:=zwk c;omega
theorem zvB (k n:Ba) (c:UInt32) (hk:k.size=32) (hn:n.size=12) (w:Wo) :
  Cl 314 #[.string k,.string n,.int .i64 (tv c)] w fun e w'=>e = .returned (.int .i64 0)/\w'=w:=by
 have:=zue k n (tv c) w;rw[zuJ k n (tv c) hk hn (zwj c) (by have:=zwk c;omega)] at this;exact this
set_option maxRecDepth 20000 in
theorem zuK (k n:Ba) (c:UInt32) (t:Ba) (hk:Hid (k.size=32)) (hn:Hid (n.size=12)) (ht:t.size<=65536) (w:Wo) :
  Cl 259 #[.string k,.string n,.int .i64 (tv c),.string t] w fun e w'=>e = .returned (.tuple #[.string ⟨(za0 t.data.toList (zqb k.data.toList n.data.toList c t.size)).toArray⟩,.int .i64 0])/\Bw w w':=by
 have WR:Hid (∀w,Cl 314 #[.string k,.string n,.int .i64 (tv c)] w fun e w'=>e = .returned (.int .i64 0)/\w'=w):=zvB k n c hk.out hn.out;obtain⟨X,hX⟩:∃X,za0 t.data.toList (zqb k.data.toList n.data.toList c t.size)=X:=⟨_,rfl⟩;have LX:Hid (X.length=t.size):=by
  show _=_;rw[<-hX,zaQ _ _ (by rw[zfR];simp)];simp
 rw[hX];have HX:Hid (_=_):=hX;have BG:Hid (∀w,Cl 315 #[.string k,.string n,.int .u32 (tv c)] w fun e w'=>e = .returned (.agg (wcl (zr6 k.data.toList n.data.toList c)).toArray)/\Bw w w'):=fun w=>zud k n c hk hn w
 have W1:=zwp c;have W2:=zwT c;have ht':(t.size:Int)<=65536:=by omega
 obtain⟨cap,A,CA,BA,bA,hcap,CB,sA⟩:=ztp t (by omega) w;have IA:Hid (BytesAt A w.heap.size t.data.toList/\Bw w A/\w.heap.size < A.heap.size):=⟨BA,bA,sA⟩;clear hX BA bA sA;go_enter Tryz.func259, Tryz.ntmps259;go_wp2_with fail;refine cM (WR.out _) ?_;rintro e w1 ⟨rfl,hw1⟩;have hw2:=hw1.symm;subst hw2;go_wp2_with fail;refine cM (BG.out _) ?_;rintro e w2 ⟨rfl,hb2⟩;have I2:Hid (BytesAt w2 w.heap.size t.data.toList/\Bw w w2/\w.heap.size < w2.heap.size):=by
  obtain⟨h1,h2,h3⟩:=IA.out;exact⟨h1.later hb2,chain h2 hb2,by have:=hb2.size;omega⟩
 clear hb2 IA BG CA;go_wp2_with fail;refine cM (zvA _ _ c w.heap.size cap t.size t.data.toList (by show _=_;simp) hcap CB _ I2.out.1 I2.out.2.2) ?_;rintro e w3 ⟨rfl,h31,h32⟩;rw[HX.out] at h31;have B3:Hid (Bw w w3):=I2.out.2.1.trans h32;have CV:=h31.string (cap:=cap) LX.out;clear h31 h32 I2;go_wp2;go_ret2;exact⟨rfl,B3.out⟩
theorem zuf (n:Nat):madeCells (Value.int .u8 0).cells (n*1)=Array.replicate n (.int .u8 0):=by
 apply Array.ext
 ·rw[size_madeCells,Array.size_replicate,Nat.mul_one]
 ·intro i h1 h2
  rw[Array.getElem_replicate];simp[madeCells,Value.cells,Nat.mod_one]
theorem zwU (n:Nat) (hn:n<=140737488355328) (w:Wo):∃W:Wo,(Instr.makeSlice 99 (.int .i64 (n:Int)) (.int .i64 (n:Int))).run Tryz.prog w = .ok (.slice (some ⟨w.heap.size,0,none⟩) n n) W
  /\ BytesAt W w.heap.size (List.replicate n 0)/\Bw w W/\w.heap.size < W.heap.size:=by
 obtain⟨i0,hi,hz0,hz1,hz2⟩:=info_parts zda;have h:=run_make (P:=Tryz.prog) w 99 5 i0 (.int .u8 0) Tryz.underlying99 hi hz0 .i64 .i64 (n:Int) (n:Int) (by omega) (Int.le_refl _) (by rw[hz2];omega) (by omega);rw[Int.toNat_natCast,hz1,zuf] at h;refine⟨_,h,fun j hj => ?_,(bQ _ _).alloc (nL _) _,by simp⟩;have hj':j < n:=by simpa using hj
 refine⟨?_,by simp[go_sem]⟩;rw[World.cell?_alloc_new,List.getElem_replicate,Array.getElem?_replicate,if_pos hj'];rfl
end Go.Proofs.YtjcppbhgjchjaaaGreatDoor
