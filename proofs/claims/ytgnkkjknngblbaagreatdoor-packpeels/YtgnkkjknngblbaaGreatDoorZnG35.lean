/- Parts: WQ1,WQ3,WQ4,WQ2,WQ5,WQ6,WQ7,WC. -/
import Derived.Test.YtgnkkjknngblbaaGreatDoorZnG26
import Derived.Test.YtgnkkjknngblbaaGreatDoorZnG16
import Derived.Test.YtgnkkjknngblbaaGreatDoorZnG34
import Derived.Test.YtgnkkjknngblbaaGreatDoorZnG24
namespace Go.Proofs.YtgnkkjknngblbaaGreatDoor
open Go.RowKit Go.Proofs.Fd Go.Proofs.Hs Go.Proofs.Cc Go.Proofs.Wd
set_option maxRecDepth 20000
set_option maxHeartbeats 1000000 in
theorem xored_any (a b:ByteArray) (hs:a.size≤140737488355328) (hab:a.size≤b.size) (w:World) :
  Calls Tryz.prog 152 #[.string a,.string b] w fun e w'=>e = .returned (.string ⟨(xorl a.data.toList b.data.toList).toArray⟩)∧Below w.heap.size w w':=by
 obtain⟨cap,A,CA,BA,bA,hcap,CB,sA⟩:=bytes_of2 a hs w
 have IA:Hid (BytesAt A w.heap.size (mixd a.data.toList b.data.toList 0)∧Below w.heap.size w A):=by
  rw[mixd_zero];exact⟨BA,bA⟩
 have HL:Hid (a.data.toList.length≤b.data.toList.length∧a.data.toList.length=a.size):=⟨by simpa using hab,by simp⟩
 clear BA bA sA
 go_enter Tryz.func152, Tryz.ntmps152
 go_wp2
 obtain⟨g,hg⟩:∃g,w.heap.size=g:=⟨_,rfl⟩
 rw[hg] at IA CA ⊢
 have HG:Hid (w.heap.size=g):=hg
 clear hg
 go_loopw [11] (fun iv wr=>∃q:Nat,q≤a.size∧iv = .int .i64 (q:Int)∧Hid (BytesAt wr g (mixd a.data.toList b.data.toList q)∧Below g w wr)) (fun iv _=>a.size - (intOf iv).toNat)
 case atStart=>exact⟨0,Nat.zero_le _,rfl,IA.out⟩
 case round =>
  obtain⟨q,hq,rfl,I⟩:=hrel
  clear IA CA
  by_cases hlt:q < a.size
  ·have g1:(q:Int) < (a.size:Int):=by omega
   have g2:(q:Int) < (b.size:Int):=by omega
   have g3:q < b.size:=by omega
   have g4:q < cap:=by omega
   have oT:q < a.data.toList.length:=by rw[HL.out.2];exact hlt
   have lT:=mixd_len a.data.toList b.data.toList q HL.out.1 (by omega)
   obtain⟨cx,fx⟩:=I.out.1 q (by rw[lT];exact oT)
   have ex:(mixd a.data.toList b.data.toList q)[q]'(by rw[lT];exact oT)=a.data.toList[q]:=by
    have:=mixd_get a.data.toList b.data.toList q HL.out.1 oT
    rw[List.getElem?_eq_getElem (by rw[lT];exact oT)] at this
    exact Option.some.inj this
   rw[ex] at cx
   have MS:Hid (_=_):=mixd_succ a.data.toList b.data.toList q HL.out.1 oT b[q] (by rw[List.getElem?_eq_getElem (by simpa using g3)];rfl)
   clear ex
   generalize a.data.toList[q]=x at *
   obtain⟨y,hy⟩:∃y,b[q]=y:=⟨_,rfl⟩
   rw[hy] at MS
   clear lT oT
   have XY:=sxor8 x y
   have NX:Hid (BytesAt ((wr.setCell ⟨g,q,none⟩ (.int .u8 ((x.toNat ^^^ y.toNat:Nat):Int))).drew) g (mixd a.data.toList b.data.toList (q+1))∧Below g w ((wr.setCell ⟨g,q,none⟩ (.int .u8 ((x.toNat ^^^ y.toNat:Nat):Int))).drew)):=by
    obtain⟨h2,h4⟩:=I.out
    rw[←MS.out]
    exact⟨h2.set q (x ^^^ y) _ (by rw[UInt8.toNat_xor]),(h4.setCell (p:=⟨g,q,none⟩) (Nat.le_refl _) _).drew⟩
   clear MS I
   go_wp2
   go_region
   all_goals
    go_wp2
    go_roundw
    case rel=>exact⟨q+1,by omega,by go_num,NX.out⟩
    case measure=>simp[intOf];omega
  ·obtain rfl:q=a.size:=by omega
   have g1:¬(a.size:Int) < (a.size:Int):=by omega
   have CV:(convert 43 9 (.slice (some ⟨g,0,none⟩) a.size cap)).run Tryz.prog wr = .ok (.string ⟨(xorl a.data.toList b.data.toList).toArray⟩) wr:=by
    have h:=I.out.1
    rw[←HL.out.2,mixd_all _ _ HL.out.1] at h
    exact h.string (by rw[xorl_len _ _ HL.out.1];exact HL.out.2)
   have BF:Hid (Below g w wr):=I.out.2
   clear I
   obtain⟨R,hR⟩:∃R:ByteArray,⟨(xorl a.data.toList b.data.toList).toArray⟩=R:=⟨_,rfl⟩
   rw[hR] at CV
   have HR:Hid (_=_):=hR
   clear hR
   go_wp2
   go_ret
   exact⟨by rw[HR.out];rfl,by have h:=BF.out;rw[←HG.out] at h;exact h⟩
set_option maxHeartbeats 1000000 in
theorem blank_any (s:ByteArray) (hs:s.size≤140737488355328) (w:World) :
  Calls Tryz.prog 92 #[.string s] w fun e w'=>e = .returned (.bool (s.data.toList.all (· == 0)))∧w'=w:=by
 have F:Hid (s.data.toList.all (· == 0)=decide (unl s.data.toList [] s.size=0)):=by
  show _=_
  have h1:s.data.toList.length=s.size:=by simp
  have h:=all_zero s.data.toList
  rw[h1] at h
  have u:=unl_zero s.data.toList [] s.size
  by_cases q:unl s.data.toList [] s.size=0
  ·rw[decide_eq_true q]
   exact h.2 fun j hj=>by simpa using (u.1 q) j hj
  ·rw[decide_eq_false q,Bool.eq_false_iff]
   exact fun z=>q (u.2 fun j hj=>by simpa using h.1 z j hj)
 rw[F.out]
 clear F
 go_enter Tryz.func92, Tryz.ntmps92
 go_wp2
 go_loopw [3,7] (fun av iv wr=>∃k:Nat,k≤s.size∧iv = .int .i64 (k:Int)∧av = .int .u8 ((unl s.data.toList [] k).toNat:Int)∧Hid (wr=w)) (fun _ iv _=>s.size - (intOf iv).toNat)
 case atStart=>exact⟨0,Nat.zero_le _,rfl,rfl,rfl⟩
 case round =>
  obtain⟨k,hk,rfl,rfl,I⟩:=hrel
  by_cases hlt:k < s.size
  ·have g1:(k:Int) < (s.size:Int):=by omega
   have UN:Hid (unl s.data.toList [] (k+1)=unl s.data.toList [] k ||| s[k]):=by
    show unl s.data.toList [] k ||| (s.data.toList.getD k 0 ^^^ ([]:List UInt8).getD k 0)=_
    rw[List.getD_eq_getElem?_getD,List.getElem?_eq_getElem (by simpa using hlt)]
    simp
    rfl
   generalize unl s.data.toList [] k=u at *
   obtain⟨c,hc⟩:∃c,s[k]=c:=⟨_,rfl⟩
   rw[hc] at UN
   have gk:(k:Int) < 140737488355328:=by omega
   go_wp2
   go_roundw
   case rel=>exact⟨k+1,by omega,by go_num,by rw[UN.out,←por8],I.out⟩
   case measure=>simp[intOf];omega
  ·obtain rfl:k=s.size:=by omega
   have g1:¬(s.size:Int) < (s.size:Int):=by omega
   have E:Hid ((((unl s.data.toList [] s.size).toNat:Int) == 0)=decide (unl s.data.toList [] s.size=0)):=by
    generalize unl s.data.toList [] s.size=u
    show _=_
    by_cases q:u=0
    ·subst q;rfl
    ·rw[decide_eq_false q,beq_eq_false_iff_ne]
     intro z
     exact q (UInt8.toNat_inj.1 (by simpa using z))
   go_wp2
   go_ret
   exact⟨by rw[E.out];rfl,I.out⟩
end Go.Proofs.YtgnkkjknngblbaaGreatDoor
namespace Go.Proofs.YtgnkkjknngblbaaGreatDoor
open Go.RowKit Go.Proofs.Fd Go.Proofs.Hs Go.Proofs.Cc Go.Proofs.Wd
set_option maxRecDepth 20000
def HAt (w:World) (g:Nat) (k0 k1 k2 k3 l r:ByteArray):Prop :=
 (∀o,w.frozen? ⟨g,o,none⟩=false)∧w.cell? ⟨g,0,none⟩=some (.string k0)∧w.cell? ⟨g,1,none⟩=some (.string k1)∧w.cell? ⟨g,2,none⟩=some (.string k2)∧w.cell? ⟨g,3,none⟩=some (.string k3)∧w.cell? ⟨g,4,none⟩=some (.string l)∧w.cell? ⟨g,5,none⟩=some (.string r)
theorem HAt.later {w w':World} {g:Nat} {k0 k1 k2 k3 l r:ByteArray} (h:HAt w g k0 k1 k2 k3 l r) (hb:Below w.heap.size w w'):HAt w' g k0 k1 k2 k3 l r:=by
 obtain⟨f,h0,h1,h2,h3,h4,h5⟩:=h
 exact⟨fun o=>(frozen_kept hb (World.block_lt_of_cell? _ _ h0)).trans (f o),cell_later hb h0,cell_later hb h1,cell_later hb h2,cell_later hb h3,cell_later hb h4,cell_later hb h5⟩
theorem HAt.setR {w:World} {g:Nat} {k0 k1 k2 k3 l r:ByteArray} (h:HAt w g k0 k1 k2 k3 l r) (x:ByteArray):HAt (w.setCell ⟨g,5,none⟩ (.string x)) g k0 k1 k2 k3 l x:=by
 obtain⟨f,h0,h1,h2,h3,h4,h5⟩:=h
 refine⟨fun o=>by simp[go_sem,f],?_,?_,?_,?_,?_,?_⟩ <;> simp[go_sem,h0,h1,h2,h3,h4,h5]
theorem HAt.setL {w:World} {g:Nat} {k0 k1 k2 k3 l r:ByteArray} (h:HAt w g k0 k1 k2 k3 l r) (x:ByteArray):HAt (w.setCell ⟨g,4,none⟩ (.string x)) g k0 k1 k2 k3 x r:=by
 obtain⟨f,h0,h1,h2,h3,h4,h5⟩:=h
 refine⟨fun o=>by simp[go_sem,f],?_,?_,?_,?_,?_,?_⟩ <;> simp[go_sem,h0,h1,h2,h3,h4,h5]
theorem HAt.drew {w:World} {g:Nat} {k0 k1 k2 k3 l r:ByteArray} (h:HAt w g k0 k1 k2 k3 l r):HAt w.drew g k0 k1 k2 k3 l r:=h
theorem HAt.lt {w:World} {g:Nat} {k0 k1 k2 k3 l r:ByteArray} (h:HAt w g k0 k1 k2 k3 l r):g < w.heap.size:=World.block_lt_of_cell? _ _ h.2.1
set_option maxHeartbeats 1000000 in
theorem turnRight_any (g:Nat) (k0 k1 k2 k3 L R k:ByteArray) (hk:Hid (k.size=32)) (hL:Hid (L.size=32)) (hR:Hid (R.size≤8192)) (w:World) (hH:Hid (HAt w g k0 k1 k2 k3 L R)) :
  Calls Tryz.prog 121 #[.pointer (some ⟨g,0,none⟩),.string k] w fun e w'=>e = .returned (.tuple #[])∧HAt w' g k0 k1 k2 k3 L ⟨(stR k.data.toList L.data.toList R.data.toList).toArray⟩∧Below g w w':=by
 obtain⟨X,hX⟩:∃X:ByteArray,⟨(xorl L.data.toList k.data.toList).toArray⟩=X:=⟨_,rfl⟩
 have sX:X.size=32:=by rw[←hX,ba_sz,xorl_len _ _ (by rw[list_sz,list_sz,hL.out,hk.out];exact Nat.le_refl _),list_sz,hL.out]
 obtain⟨Z,hZ⟩:∃Z:ByteArray,⟨#[0,0,0,0,0,0,0,0,0,0,0,0]⟩=Z:=⟨_,rfl⟩
 obtain⟨Y,hY⟩:∃Y:ByteArray,⟨(stR k.data.toList L.data.toList R.data.toList).toArray⟩=Y:=⟨_,rfl⟩
 have XO:Hid (∀w,Calls Tryz.prog 152 #[.string L,.string k] w fun e w'=>e = .returned (.string X)∧Below w.heap.size w w'):=fun w=>by
  rw[←hX];exact xored_any L k (by rw[hL.out];decide) (by rw[hL.out,hk.out];exact Nat.le_refl _) w
 have RE:Hid (∀w,Calls Tryz.prog 81 #[.string ⟨#[0]⟩,.int .i64 12] w fun e w'=>e = .returned (.string Z)∧Below w.heap.size w w'):=fun w=>by
  rw[←hZ];exact rep12 w
 have SX:Hid (∀w,Calls Tryz.prog 80 #[.string X,.string Z,.int .i64 0,.string R] w fun e w'=>e = .returned (.tuple #[.string Y,.int .i64 0])∧Below w.heap.size w w'):=fun w=>by
  have h:=sXor_ok X Z 0 R (by show X.size=32;exact sX) (by rw[←hZ];exact rfl) (by have:=hR.out;omega) w
  have e:(⟨(xorl R.data.toList (strm X.data.toList Z.data.toList 0 R.size)).toArray⟩:ByteArray)=Y:=by
   rw[←hY,←hX,←hZ]
   unfold stR
   rw[list_sz]
   rfl
  rw[e] at h
  exact h
 rw[hY]
 clear hX hZ hY sX
 obtain⟨fz,-,-,-,-,c4,c5⟩:=hH.out
 have f5:=fz 5
 go_enter Tryz.func121, Tryz.ntmps121
 go_wp2
 go_region_with (first|(go_at_call 152;refine Calls.mono (XO.out _) ?_;rintro e w1 ⟨rfl,hb1⟩;have H1:Hid (HAt w1 g k0 k1 k2 k3 L R):=HAt.later (HAt.drew hH.out) hb1;have c51:=H1.out.2.2.2.2.2.2)|(go_at_call 81;refine Calls.mono (RE.out _) ?_;rintro e w2 ⟨rfl,hb2⟩;have H2:Hid (HAt w2 g k0 k1 k2 k3 L R):=HAt.later H1.out hb2;have c52:=H2.out.2.2.2.2.2.2)|(go_at_call 80;refine Calls.mono (SX.out _) ?_;rintro e w3 ⟨rfl,hb3⟩;have H3:Hid (HAt w3 g k0 k1 k2 k3 L R):=HAt.later H2.out hb3;have c53:=H3.out.2.2.2.2.2.2;have f53:=H3.out.1 5))
 all_goals
  exact bodyPost_end (results_none Tryz.results121 _ _ _) rfl ⟨rfl,H3.out.setR Y,((chain (chain (chain (Below.refl _ _).drew hb1) hb2) hb3).mono (Nat.le_of_lt hH.out.lt)).setCell (p:=⟨g,5,none⟩) (Nat.le_refl _) _⟩
end Go.Proofs.YtgnkkjknngblbaaGreatDoor
namespace Go.Proofs.YtgnkkjknngblbaaGreatDoor
open Go.RowKit Go.Proofs.Fd Go.Proofs.Hs Go.Proofs.Cc Go.Proofs.Wd
set_option maxRecDepth 20000
set_option maxHeartbeats 1000000 in
theorem turnLeft_any (g:Nat) (k0 k1 k2 k3 L R k:ByteArray) (hk:Hid (k.size=32)) (hL:Hid (L.size=32)) (hR:Hid (R.size≤8192)) (w:World) (hH:Hid (HAt w g k0 k1 k2 k3 L R)) (hK:Hid (Kh w)) :
  Calls Tryz.prog 120 #[.pointer (some ⟨g,0,none⟩),.string k] w fun e w'=>e = .returned (.tuple #[])∧HAt w' g k0 k1 k2 k3 ⟨(stL k.data.toList L.data.toList R.data.toList).toArray⟩ R∧Below g w w':=by
 obtain⟨T,hT⟩:∃T:ByteArray,⟨(hmac k.data.toList R.data.toList).toArray⟩=T:=⟨_,rfl⟩
 have sT:T.size=32:=by rw[←hT,ba_sz,hmac_len]
 obtain⟨Y,hY⟩:∃Y:ByteArray,⟨(stL k.data.toList L.data.toList R.data.toList).toArray⟩=Y:=⟨_,rfl⟩
 have XO:Hid (∀w,Calls Tryz.prog 152 #[.string L,.string T] w fun e w'=>e = .returned (.string Y)∧Below w.heap.size w w'):=fun w=>by
  have h:=xored_any L T (by rw[hL.out];decide) (by rw[hL.out,sT];exact Nat.le_refl _) w
  have e:(⟨(xorl L.data.toList T.data.toList).toArray⟩:ByteArray)=Y:=by rw[←hY,←hT];rfl
  rw[e] at h
  exact h
 have TG:Hid (∀(B:Nat) (w:World),Kh w→w.cell? ⟨B,0,none⟩=some (.string R)→Calls Tryz.prog 79 #[.string k,.slice (some ⟨B,0,none⟩) 1 1] w fun e w'=>e = .returned (.string T)∧Below w.heap.size w w'):=fun B w h h0=>by
  have q:=tag_c k (some ⟨B,0,none⟩) [R] 1 1 w rfl (by show (1:Nat)*16+1024≤_;decide) (by rw[hk.out];show (32:Nat)≤_;decide) (fun s hs=>by
   simp at hs
   subst hs
   have:=hR.out;omega) h (strAt1 h0)
  rw[jnd_one,hT] at q
  exact q
 rw[hY]
 clear hT hY sT
 obtain⟨fz,-,-,-,-,c4,c5⟩:=hH.out
 have gl:=hH.out.lt
 have gn:¬g=w.heap.size:=by omega
 have gn2:¬w.heap.size=g:=by omega
 go_enter Tryz.func120, Tryz.ntmps120
 go_wp2
 go_region_with (first|(go_at_call 79;refine Calls.mono (TG.out w.heap.size _ (Kh.later hK.out ((Below.refl _ _).drew.alloc (Nat.le_refl _) _)) ?_) ?_;(focus simp[go_sem]);rintro e w1 ⟨rfl,hb1⟩;have H1:Hid (HAt w1 g k0 k1 k2 k3 L R):=HAt.later (HAt.later (HAt.drew hH.out) ((Below.refl _ _).alloc (Nat.le_refl _) _)) hb1;have c41:=H1.out.2.2.2.2.2.1)|(go_at_call 152;refine Calls.mono (XO.out _) ?_;rintro e w2 ⟨rfl,hb2⟩;have H2:Hid (HAt w2 g k0 k1 k2 k3 L R):=HAt.later H1.out hb2;have c42:=H2.out.2.2.2.2.2.1;have f42:=H2.out.1 4))
 all_goals
  exact bodyPost_end (results_none Tryz.results120 _ _ _) rfl ⟨rfl,H2.out.setL Y,((chain (chain ((Below.refl _ _).drew.alloc (Nat.le_refl _) _) hb1) hb2).mono (Nat.le_of_lt hH.out.lt)).setCell (p:=⟨g,4,none⟩) (Nat.le_refl _) _⟩
end Go.Proofs.YtgnkkjknngblbaaGreatDoor
namespace Go.Proofs.YtgnkkjknngblbaaGreatDoor
open Go.RowKit Go.Proofs.Fd Go.Proofs.Hs Go.Proofs.Cc Go.Proofs.Wd
set_option maxRecDepth 20000
theorem At4.range {w:World} {b:Nat} {x0 x1 x2 x3:Value} (h:At4 w b x0 x1 x2 x3):w.rangeAt b 0 [x0,x1,x2,x3]:=by
 obtain⟨-,h0,h1,h2,h3⟩:=h
 intro j v hv
 rcases (by have:=(List.getElem?_eq_some_iff.1 hv).1;simp at this;omega:j=0∨j=1∨j=2∨j=3) with rfl|rfl|rfl|rfl
 ·simp at hv;subst hv;simpa using h0
 ·simp at hv;subst hv;simpa using h1
 ·simp at hv;subst hv;simpa using h2
 ·simp at hv;subst hv;simpa using h3
theorem res_keys (tmps:Array Value) (w:World) (b:Nat) (x:Array Value) (h0:tmps.getD 2 undef = .pointer (some ⟨b,0,none⟩))
  (l1:(loadVar 106 ⟨b,0,none⟩).run Tryz.prog w = .ok (.agg x) w) :
  (results Tryz.f119 tmps).run Tryz.prog w = .ok (.agg x) w:=by
 unfold results
 rw[Tryz.results119]
 have h0':tmps[2]?.getD undef = .pointer (some ⟨b,0,none⟩):=by simpa using h0
 simp[h0',l1,asAddr]
def wks (key:ByteArray) (i:Nat):ByteArray:=⟨(wkey key.data.toList i).toArray⟩
set_option maxHeartbeats 1000000 in
theorem derived_any (key:ByteArray) (hk:Hid (key.size+64≤140737488355328)) (w:World) (hK:Hid (Kh w)) :
  Calls Tryz.prog 119 #[.string key] w fun e w'=>e = .returned (.agg #[.string (wks key 0),.string (wks key 1),.string (wks key 2),.string (wks key 3)])∧Below w.heap.size w w':=by
 obtain⟨A,hA⟩:∃A:ByteArray,⟨(drv key.data.toList lab 128).toArray⟩=A:=⟨_,rfl⟩
 have DV:Hid (∀w,Kh w→Calls Tryz.prog 27 #[.string key,.string ⟨#[119,105,100,101]⟩,.int .i64 128] w fun e w'=>e = .returned (.tuple #[.string A,.int .i64 0])∧Below w.heap.size w w'):=fun w h=>by
  have:=derive_c key ⟨#[119,105,100,101]⟩ 128 w hk (by show (4:Nat)+97≤_;decide) h
  unfold drV at this
  rw[if_neg (by decide)] at this
  rw[←hA]
  exact this
 have sA:A.size=128:=by rw[←hA,ba_sz];unfold drv;rw[xpn_len]
 have AK:Hid (wks key 0=A.extract 0 32∧wks key 1=A.extract 32 64∧wks key 2=A.extract 64 96∧wks key 3=A.extract 96 128):=by
  have h:∀i,wks key i=A.extract (32*i) (32*i+32):=fun i=>by
   have e:(A.extract (32*i) (32*i+32)).data.toList=wkey key.data.toList i:=by
    rw[←hA,ba_cut]
    unfold wkey
    rw[show 32*i+32 - 32*i=32 by omega]
   unfold wks
   rw[←e]
  exact⟨h 0,h 1,h 2,h 3⟩
 have sAi:(A.size:Int)=128:=by omega
 clear hA
 rw[AK.out.1,AK.out.2.1,AK.out.2.2.1,AK.out.2.2.2]
 go_enter Tryz.func119, Tryz.ntmps119
 go_wp2_with fail
 refine Calls.mono (DV.out _ (hK.out.alloc _)) ?_
 rintro e w1 ⟨rfl,hb1⟩
 obtain⟨W2,hW2⟩:∃W2,w1.alloc (.cells #[.string A] 9)=W2:=⟨_,rfl⟩
 have J:Hid (At4 W2 w.heap.size (.string ⟨#[]⟩) (.string ⟨#[]⟩) (.string ⟨#[]⟩) (.string ⟨#[]⟩)∧Below w.heap.size w W2∧W2.cell? ⟨w1.heap.size,0,none⟩=some (.string A)):=by
  have h0:At4 (w.alloc (.cells #[.string ⟨#[]⟩,.string ⟨#[]⟩,.string ⟨#[]⟩,.string ⟨#[]⟩] 106)) w.heap.size (.string ⟨#[]⟩) (.string ⟨#[]⟩) (.string ⟨#[]⟩) (.string ⟨#[]⟩):=⟨fun o=>by simp[go_sem],by simp[go_sem],by simp[go_sem],by simp[go_sem],by simp[go_sem]⟩
  rw[←hW2]
  exact⟨(h0.later hb1).later ((Below.refl _ _).alloc (Nat.le_refl _) _),(chain ((Below.refl _ _).alloc (Nat.le_refl _) _) hb1).alloc (by have:=hb1.size;simp at this;omega) _,by simp[go_sem]⟩
 obtain⟨fz,c0,c1,c2,c3⟩:=J.out.1
 have ca:=J.out.2.2
 have f0:=fz 0
 have f1:=fz 1
 have f2:=fz 2
 have f3:=fz 3
 have AF:Hid (∀x0 x1 x2 x3,At4 ((((W2.setCell ⟨w.heap.size,0,none⟩ x0).setCell ⟨w.heap.size,1,none⟩ x1).setCell ⟨w.heap.size,2,none⟩ x2).setCell ⟨w.heap.size,3,none⟩ x3) w.heap.size x0 x1 x2 x3):=fun x0 x1 x2 x3=>At4.whole J.out.1 x0 x1 x2 x3
 have NF:Hid (∀x0 x1 x2 x3,Below w.heap.size w ((((W2.setCell ⟨w.heap.size,0,none⟩ x0).setCell ⟨w.heap.size,1,none⟩ x1).setCell ⟨w.heap.size,2,none⟩ x2).setCell ⟨w.heap.size,3,none⟩ x3)):=fun x0 x1 x2 x3=>below_put J.out.2.1 (Nat.le_refl _) x0 x1 x2 x3
 clear hb1 DV fz J
 go_wp2
 refine bodyPost_ret (v := .agg #[.string (A.extract 0 32),.string (A.extract 32 64),.string (A.extract 64 96),.string (A.extract 96 128)]) ?_ rfl ⟨rfl,NF.out _ _ _ _⟩
 exact res_keys _ _ w.heap.size _ (by kernel_rfl) (run_loadVar_mid _ w.heap.size 0 106 [.string (A.extract 0 32),.string (A.extract 32 64),.string (A.extract 64 96),.string (A.extract 96 128)] _ (At4.range (AF.out _ _ _ _)) Tryz.underlying106 rfl (by kernel_rfl))
end Go.Proofs.YtgnkkjknngblbaaGreatDoor
namespace Go.Proofs.YtgnkkjknngblbaaGreatDoor
open Go.RowKit Go.Proofs.Fd Go.Proofs.Hs Go.Proofs.Cc Go.Proofs.Wd
set_option maxRecDepth 20000
theorem wks_size (key:ByteArray) (i:Nat) (h:i < 4):(wks key i).size=32:=by unfold wks;rw[ba_sz,wkey_len _ _ h]
theorem wks_data (key:ByteArray) (i:Nat):(wks key i).data.toList=wkey key.data.toList i:=rfl
set_option maxHeartbeats 1000000 in
theorem wrong_any (n:Int) (w:World) :
  Calls Tryz.prog 88 #[.int .i64 n] w fun e w'=>e = .returned (.int .i64 (wmay n))∧w'=w:=by
 by_cases h1:n < 64
 ·have E:Hid (wmay n=3):=wmay_form n h1
  go_enter Tryz.func88, Tryz.ntmps88
  go_wp2
  go_ret
  exact⟨by rw[E.out];rfl,rfl⟩
 ·have g1:64≤n:=by omega
  by_cases h2:8192 < n
  ·have E:Hid (wmay n=2):=wmay_long n h2
   go_enter Tryz.func88, Tryz.ntmps88
   go_wp2
   go_ret
   exact⟨by rw[E.out];rfl,rfl⟩
  ·have E:Hid (wmay n=0):=wmay_ok n g1 (by omega)
   go_enter Tryz.func88, Tryz.ntmps88
   go_wp2
   go_ret
   exact⟨by rw[E.out];rfl,rfl⟩
theorem HAt.range {w:World} {b:Nat} {x0 x1 x2 x3 x4 x5:ByteArray} (h:HAt w b x0 x1 x2 x3 x4 x5):w.rangeAt b 0 [.string x0,.string x1,.string x2,.string x3,.string x4,.string x5]:=by
 obtain⟨-,h0,h1,h2,h3,h4,h5⟩:=h
 intro j v hv
 rcases (by have:=(List.getElem?_eq_some_iff.1 hv).1;simp at this;omega:j=0∨j=1∨j=2∨j=3∨j=4∨j=5) with rfl|rfl|rfl|rfl|rfl|rfl
 ·simp at hv;subst hv;simpa using h0
 ·simp at hv;subst hv;simpa using h1
 ·simp at hv;subst hv;simpa using h2
 ·simp at hv;subst hv;simpa using h3
 ·simp at hv;subst hv;simpa using h4
 ·simp at hv;subst hv;simpa using h5
theorem HAt.whole {w:World} {b:Nat} {x0 x1 x2 x3 x4 x5:ByteArray} (h:HAt w b x0 x1 x2 x3 x4 x5) (y0 y1 y2 y3 y4 y5:ByteArray) :
  HAt ((((((w.setCell ⟨b,0,none⟩ (.string y0)).setCell ⟨b,1,none⟩ (.string y1)).setCell ⟨b,2,none⟩ (.string y2)).setCell ⟨b,3,none⟩ (.string y3)).setCell ⟨b,4,none⟩ (.string y4)).setCell ⟨b,5,none⟩ (.string y5)) b y0 y1 y2 y3 y4 y5:=by
 obtain⟨f,h0,h1,h2,h3,h4,h5⟩:=h
 refine⟨fun o=>by simp[go_sem,f],?_,?_,?_,?_,?_,?_⟩ <;> simp[go_sem,h0,h1,h2,h3,h4,h5]
theorem HAt.new (w:World) (t:TypeId) (y0 y1 y2 y3 y4 y5:ByteArray):HAt (w.alloc (.cells #[.string y0,.string y1,.string y2,.string y3,.string y4,.string y5] t)) w.heap.size y0 y1 y2 y3 y4 y5 :=
 ⟨fun o=>by simp[go_sem],by simp[go_sem],by simp[go_sem],by simp[go_sem],by simp[go_sem],by simp[go_sem],by simp[go_sem]⟩
theorem below_put6 {B:Nat} {a w:World} (h:Below B a w) {c:Nat} (hc:B≤c) (y0 y1 y2 y3 y4 y5:Value) :
  Below B a ((((((w.setCell ⟨c,0,none⟩ y0).setCell ⟨c,1,none⟩ y1).setCell ⟨c,2,none⟩ y2).setCell ⟨c,3,none⟩ y3).setCell ⟨c,4,none⟩ y4).setCell ⟨c,5,none⟩ y5) :=
 (((((h.setCell (p:=⟨c,0,none⟩) hc _).setCell (p:=⟨c,1,none⟩) hc _).setCell (p:=⟨c,2,none⟩) hc _).setCell (p:=⟨c,3,none⟩) hc _).setCell (p:=⟨c,4,none⟩) hc _).setCell (p:=⟨c,5,none⟩) hc _
theorem res_halves (tmps:Array Value) (w:World) (b:Nat) (x:Array Value) (h0:tmps.getD 4 undef = .pointer (some ⟨b,0,none⟩))
  (l1:(loadVar 108 ⟨b,0,none⟩).run Tryz.prog w = .ok (.agg x) w) :
  (results Tryz.f89 tmps).run Tryz.prog w = .ok (.agg x) w:=by
 unfold results
 rw[Tryz.results89]
 have h0':tmps[4]?.getD undef = .pointer (some ⟨b,0,none⟩):=by simpa using h0
 simp[h0',l1,asAddr]
set_option maxHeartbeats 1000000 in
theorem parted_any (key block:ByteArray) (hk:Hid (key.size+64≤140737488355328)) (hb:64≤block.size) (hb2:block.size≤8192) (w:World) (hK:Hid (Kh w)) :
  Calls Tryz.prog 89 #[.string key,.string block] w fun e w'=>e = .returned (.agg #[.string (wks key 0),.string (wks key 1),.string (wks key 2),.string (wks key 3),.string (block.extract 0 32),.string (block.extract 32 block.size)])∧Below w.heap.size w w':=by
 have DV:Hid (∀w,Kh w→Calls Tryz.prog 119 #[.string key] w fun e w'=>e = .returned (.agg #[.string (wks key 0),.string (wks key 1),.string (wks key 2),.string (wks key 3)])∧Below w.heap.size w w'):=fun w h=>derived_any key hk w h
 generalize wks key 0=k0 at *
 generalize wks key 1=k1 at *
 generalize wks key 2=k2 at *
 generalize wks key 3=k3 at *
 have g1:(32:Int)≤(block.size:Int):=by omega
 have g2:(block.size:Int)≤8192:=by omega
 go_enter Tryz.func89, Tryz.ntmps89
 go_wp2
 obtain⟨A,hA⟩:∃A,w.alloc (.cells #[.string ⟨#[]⟩,.string ⟨#[]⟩,.string ⟨#[]⟩,.string ⟨#[]⟩,.string ⟨#[]⟩,.string ⟨#[]⟩] 108)=A:=⟨_,rfl⟩
 rw[hA]
 have I:Hid (HAt A w.heap.size ⟨#[]⟩ ⟨#[]⟩ ⟨#[]⟩ ⟨#[]⟩ ⟨#[]⟩ ⟨#[]⟩∧Below w.heap.size w A∧Kh A):=by
  rw[←hA]
  exact⟨HAt.new _ _ _ _ _ _ _ _,(Below.refl _ _).alloc (Nat.le_refl _) _,hK.out.alloc _⟩
 clear hA
 go_region_with (first|(go_at_call 119;refine Calls.mono (DV.out _ I.out.2.2) ?_;rintro e w1 ⟨rfl,hb1⟩;have H1:Hid (HAt w1 w.heap.size ⟨#[]⟩ ⟨#[]⟩ ⟨#[]⟩ ⟨#[]⟩ ⟨#[]⟩ ⟨#[]⟩):=HAt.later (HAt.drew I.out.1) hb1;obtain⟨fz,c0,c1,c2,c3,c4,c5⟩:=H1.out;have f0:=fz 0;have f1:=fz 1;have f2:=fz 2;have f3:=fz 3;have f4:=fz 4;have f5:=fz 5;clear fz))
 have FF:Hid (_∧_):=And.intro (HAt.whole H1.out k0 k1 k2 k3 (block.extract 0 32) (block.extract 32 block.size)) (below_put6 (chain (chain I.out.2.1 (Below.refl _ _).drew) hb1) (Nat.le_refl w.heap.size) (.string k0) (.string k1) (.string k2) (.string k3) (.string (block.extract 0 32)) (.string (block.extract 32 block.size)))
 clear H1 c0 c1 c2 c3 c4 c5 f0 f1 f2 f3 f4 f5
 go_wp2
 refine bodyPost_ret (v := .agg #[.string k0,.string k1,.string k2,.string k3,.string (block.extract 0 32),.string (block.extract 32 block.size)]) ?_ rfl ⟨rfl,FF.out.2⟩
 exact res_halves _ _ w.heap.size _ (by kernel_rfl) (run_loadVar_mid _ w.heap.size 0 108 [.string k0,.string k1,.string k2,.string k3,.string (block.extract 0 32),.string (block.extract 32 block.size)] _ (HAt.range FF.out.1) Tryz.underlying108 rfl (by kernel_rfl))
end Go.Proofs.YtgnkkjknngblbaaGreatDoor
namespace Go.Proofs.YtgnkkjknngblbaaGreatDoor
open Go.RowKit Go.Proofs.Fd Go.Proofs.Hs Go.Proofs.Cc Go.Proofs.Wd
set_option maxRecDepth 20000
theorem Kh.above {w w':World} {g:Nat} (h:Kh w) (hg : 1 < g) (hb:Below g w w'):Kh w':=⟨Nat.lt_of_lt_of_le h.1 hb.size,h.2.later hb hg⟩
def sR (k l r:ByteArray):ByteArray:=⟨(stR k.data.toList l.data.toList r.data.toList).toArray⟩
def sL (k l r:ByteArray):ByteArray:=⟨(stL k.data.toList l.data.toList r.data.toList).toArray⟩
theorem sR_size (k l r:ByteArray):(sR k l r).size=r.size:=by unfold sR;rw[ba_sz,stR_len,list_sz]
theorem sL_size (k l r:ByteArray) (h:l.size=32):(sL k l r).size=32:=by unfold sL;rw[ba_sz,stL_len _ _ _ (by rw[list_sz];exact h)]
set_option maxHeartbeats 1000000 in
theorem hshut_any (g:Nat) (k0 k1 k2 k3 L R:ByteArray) (hs:Hid (k0.size=32∧k1.size=32∧k2.size=32∧k3.size=32)) (hL:Hid (L.size=32)) (hR:Hid (R.size≤8192)) (w:World) (hH:Hid (HAt w g k0 k1 k2 k3 L R)) (hK:Hid (Kh w)) (hg:Hid (1 < g)) :
  Calls Tryz.prog 103 #[.pointer (some ⟨g,0,none⟩)] w fun e w'=>e = .returned (.tuple #[])∧HAt w' g k0 k1 k2 k3 (sL k3 (sL k1 L (sR k0 L R)) (sR k2 (sL k1 L (sR k0 L R)) (sR k0 L R))) (sR k2 (sL k1 L (sR k0 L R)) (sR k0 L R))∧Below g w w':=by
 have S0:Hid (HAt w g k0 k1 k2 k3 L R∧Kh w∧Below g w w∧L.size=32∧R.size≤8192):=⟨hH.out,hK.out,Below.refl _ _,hL.out,hR.out⟩
 have TR:Hid (∀(L R k:ByteArray) (w:World),k.size=32→L.size=32→R.size≤8192→HAt w g k0 k1 k2 k3 L R→Calls Tryz.prog 121 #[.pointer (some ⟨g,0,none⟩),.string k] w fun e w'=>e = .returned (.tuple #[])∧HAt w' g k0 k1 k2 k3 L (sR k L R)∧Below g w w'):=fun L R k w h1 h2 h3 h4=>turnRight_any g k0 k1 k2 k3 L R k h1 h2 h3 w h4
 have TL:Hid (∀(L R k:ByteArray) (w:World),k.size=32→L.size=32→R.size≤8192→HAt w g k0 k1 k2 k3 L R→Kh w→Calls Tryz.prog 120 #[.pointer (some ⟨g,0,none⟩),.string k] w fun e w'=>e = .returned (.tuple #[])∧HAt w' g k0 k1 k2 k3 (sL k L R) R∧Below g w w'):=fun L R k w h1 h2 h3 h4 h5=>turnLeft_any g k0 k1 k2 k3 L R k h1 h2 h3 w h4 h5
 clear hH hK hL hR
 have q0:=S0.out.1.2.1
 go_enter Tryz.func103, Tryz.ntmps103
 go_wp2_with fail
 refine Calls.mono (TR.out L R k0 _ hs.out.1 S0.out.2.2.2.1 S0.out.2.2.2.2 S0.out.1) ?_
 rintro e w1 ⟨rfl,h1,b1⟩
 have S1:Hid (HAt w1 g k0 k1 k2 k3 L (sR k0 L R)∧Kh w1∧Below g w w1∧ByteArray.size L=32∧ByteArray.size (sR k0 L R)≤8192):=⟨h1,S0.out.2.1.above hg.out b1,S0.out.2.2.1.trans b1,S0.out.2.2.2.1,by rw[sR_size];exact S0.out.2.2.2.2⟩
 clear h1 b1 S0 q0
 have q1:=S1.out.1.2.2.1
 go_wp2_with fail
 refine Calls.mono (TL.out L (sR k0 L R) k1 _ hs.out.2.1 S1.out.2.2.2.1 S1.out.2.2.2.2 S1.out.1 S1.out.2.1) ?_
 rintro e w2 ⟨rfl,h2,b2⟩
 have S2:Hid (HAt w2 g k0 k1 k2 k3 (sL k1 L (sR k0 L R)) (sR k0 L R)∧Kh w2∧Below g w w2∧ByteArray.size (sL k1 L (sR k0 L R))=32∧ByteArray.size (sR k0 L R)≤8192):=⟨h2,S1.out.2.1.above hg.out b2,S1.out.2.2.1.trans b2,sL_size _ _ _ S1.out.2.2.2.1,S1.out.2.2.2.2⟩
 clear h2 b2 S1 q1
 have q2:=S2.out.1.2.2.2.1
 go_wp2_with fail
 refine Calls.mono (TR.out (sL k1 L (sR k0 L R)) (sR k0 L R) k2 _ hs.out.2.2.1 S2.out.2.2.2.1 S2.out.2.2.2.2 S2.out.1) ?_
 rintro e w3 ⟨rfl,h3,b3⟩
 have S3:Hid (HAt w3 g k0 k1 k2 k3 (sL k1 L (sR k0 L R)) (sR k2 (sL k1 L (sR k0 L R)) (sR k0 L R))∧Kh w3∧Below g w w3∧ByteArray.size (sL k1 L (sR k0 L R))=32∧ByteArray.size (sR k2 (sL k1 L (sR k0 L R)) (sR k0 L R))≤8192):=⟨h3,S2.out.2.1.above hg.out b3,S2.out.2.2.1.trans b3,S2.out.2.2.2.1,by rw[sR_size];exact S2.out.2.2.2.2⟩
 clear h3 b3 S2 q2
 have q3:=S3.out.1.2.2.2.2.1
 go_wp2_with fail
 refine Calls.mono (TL.out (sL k1 L (sR k0 L R)) (sR k2 (sL k1 L (sR k0 L R)) (sR k0 L R)) k3 _ hs.out.2.2.2 S3.out.2.2.2.1 S3.out.2.2.2.2 S3.out.1 S3.out.2.1) ?_
 rintro e w4 ⟨rfl,h4,b4⟩
 have S4:Hid (HAt w4 g k0 k1 k2 k3 (sL k3 (sL k1 L (sR k0 L R)) (sR k2 (sL k1 L (sR k0 L R)) (sR k0 L R))) (sR k2 (sL k1 L (sR k0 L R)) (sR k0 L R))∧Kh w4∧Below g w w4∧ByteArray.size (sL k3 (sL k1 L (sR k0 L R)) (sR k2 (sL k1 L (sR k0 L R)) (sR k0 L R)))=32∧ByteArray.size (sR k2 (sL k1 L (sR k0 L R)) (sR k0 L R))≤8192):=⟨h4,S3.out.2.1.above hg.out b4,S3.out.2.2.1.trans b4,sL_size _ _ _ S3.out.2.2.2.1,S3.out.2.2.2.2⟩
 clear h4 b4 S3 q3
 go_wp2
 exact bodyPost_end (results_none Tryz.results103 _ _ _) rfl ⟨rfl,S4.out.1,S4.out.2.2.1⟩
set_option maxHeartbeats 1000000 in
theorem hopen_any (g:Nat) (k0 k1 k2 k3 L R:ByteArray) (hs:Hid (k0.size=32∧k1.size=32∧k2.size=32∧k3.size=32)) (hL:Hid (L.size=32)) (hR:Hid (R.size≤8192)) (w:World) (hH:Hid (HAt w g k0 k1 k2 k3 L R)) (hK:Hid (Kh w)) (hg:Hid (1 < g)) :
  Calls Tryz.prog 90 #[.pointer (some ⟨g,0,none⟩)] w fun e w'=>e = .returned (.tuple #[])∧HAt w' g k0 k1 k2 k3 (sL k1 (sL k3 L R) (sR k2 (sL k3 L R) R)) (sR k0 (sL k1 (sL k3 L R) (sR k2 (sL k3 L R) R)) (sR k2 (sL k3 L R) R))∧Below g w w':=by
 have S0:Hid (HAt w g k0 k1 k2 k3 L R∧Kh w∧Below g w w∧L.size=32∧R.size≤8192):=⟨hH.out,hK.out,Below.refl _ _,hL.out,hR.out⟩
 have TR:Hid (∀(L R k:ByteArray) (w:World),k.size=32→L.size=32→R.size≤8192→HAt w g k0 k1 k2 k3 L R→Calls Tryz.prog 121 #[.pointer (some ⟨g,0,none⟩),.string k] w fun e w'=>e = .returned (.tuple #[])∧HAt w' g k0 k1 k2 k3 L (sR k L R)∧Below g w w'):=fun L R k w h1 h2 h3 h4=>turnRight_any g k0 k1 k2 k3 L R k h1 h2 h3 w h4
 have TL:Hid (∀(L R k:ByteArray) (w:World),k.size=32→L.size=32→R.size≤8192→HAt w g k0 k1 k2 k3 L R→Kh w→Calls Tryz.prog 120 #[.pointer (some ⟨g,0,none⟩),.string k] w fun e w'=>e = .returned (.tuple #[])∧HAt w' g k0 k1 k2 k3 (sL k L R) R∧Below g w w'):=fun L R k w h1 h2 h3 h4 h5=>turnLeft_any g k0 k1 k2 k3 L R k h1 h2 h3 w h4 h5
 clear hH hK hL hR
 have q3:=S0.out.1.2.2.2.2.1
 go_enter Tryz.func90, Tryz.ntmps90
 go_wp2_with fail
 refine Calls.mono (TL.out L R k3 _ hs.out.2.2.2 S0.out.2.2.2.1 S0.out.2.2.2.2 S0.out.1 S0.out.2.1) ?_
 rintro e w1 ⟨rfl,h1,b1⟩
 have S1:Hid (HAt w1 g k0 k1 k2 k3 (sL k3 L R) R∧Kh w1∧Below g w w1∧ByteArray.size (sL k3 L R)=32∧ByteArray.size R≤8192):=⟨h1,S0.out.2.1.above hg.out b1,S0.out.2.2.1.trans b1,sL_size _ _ _ S0.out.2.2.2.1,S0.out.2.2.2.2⟩
 clear h1 b1 S0 q3
 have q2:=S1.out.1.2.2.2.1
 go_wp2_with fail
 refine Calls.mono (TR.out (sL k3 L R) R k2 _ hs.out.2.2.1 S1.out.2.2.2.1 S1.out.2.2.2.2 S1.out.1) ?_
 rintro e w2 ⟨rfl,h2,b2⟩
 have S2:Hid (HAt w2 g k0 k1 k2 k3 (sL k3 L R) (sR k2 (sL k3 L R) R)∧Kh w2∧Below g w w2∧ByteArray.size (sL k3 L R)=32∧ByteArray.size (sR k2 (sL k3 L R) R)≤8192):=⟨h2,S1.out.2.1.above hg.out b2,S1.out.2.2.1.trans b2,S1.out.2.2.2.1,by rw[sR_size];exact S1.out.2.2.2.2⟩
 clear h2 b2 S1 q2
 have q1:=S2.out.1.2.2.1
 go_wp2_with fail
 refine Calls.mono (TL.out (sL k3 L R) (sR k2 (sL k3 L R) R) k1 _ hs.out.2.1 S2.out.2.2.2.1 S2.out.2.2.2.2 S2.out.1 S2.out.2.1) ?_
 rintro e w3 ⟨rfl,h3,b3⟩
 have S3:Hid (HAt w3 g k0 k1 k2 k3 (sL k1 (sL k3 L R) (sR k2 (sL k3 L R) R)) (sR k2 (sL k3 L R) R)∧Kh w3∧Below g w w3∧ByteArray.size (sL k1 (sL k3 L R) (sR k2 (sL k3 L R) R))=32∧ByteArray.size (sR k2 (sL k3 L R) R)≤8192):=⟨h3,S2.out.2.1.above hg.out b3,S2.out.2.2.1.trans b3,sL_size _ _ _ S2.out.2.2.2.1,S2.out.2.2.2.2⟩
 clear h3 b3 S2 q1
 have q0:=S3.out.1.2.1
 go_wp2_with fail
 refine Calls.mono (TR.out (sL k1 (sL k3 L R) (sR k2 (sL k3 L R) R)) (sR k2 (sL k3 L R) R) k0 _ hs.out.1 S3.out.2.2.2.1 S3.out.2.2.2.2 S3.out.1) ?_
 rintro e w4 ⟨rfl,h4,b4⟩
 have S4:Hid (HAt w4 g k0 k1 k2 k3 (sL k1 (sL k3 L R) (sR k2 (sL k3 L R) R)) (sR k0 (sL k1 (sL k3 L R) (sR k2 (sL k3 L R) R)) (sR k2 (sL k3 L R) R))∧Kh w4∧Below g w w4∧ByteArray.size (sL k1 (sL k3 L R) (sR k2 (sL k3 L R) R))=32∧ByteArray.size (sR k0 (sL k1 (sL k3 L R) (sR k2 (sL k3 L R) R)) (sR k2 (sL k3 L R) R))≤8192):=⟨h4,S3.out.2.1.above hg.out b4,S3.out.2.2.1.trans b4,S3.out.2.2.2.1,by rw[sR_size];exact S3.out.2.2.2.2⟩
 clear h4 b4 S3 q0
 go_wp2
 exact bodyPost_end (results_none Tryz.results90 _ _ _) rfl ⟨rfl,S4.out.1,S4.out.2.2.1⟩
set_option maxHeartbeats 1000000 in
theorem whole_any (g:Nat) (k0 k1 k2 k3 L R:ByteArray) (hs:Hid (L.size+R.size≤140737488355328)) (w:World) (hH:Hid (HAt w g k0 k1 k2 k3 L R)) :
  Calls Tryz.prog 91 #[.pointer (some ⟨g,0,none⟩)] w fun e w'=>e = .returned (.string (L++R))∧Below w.heap.size w w':=by
 obtain⟨-,-,-,-,-,c4,c5⟩:=hH.out
 have hsum:L.size+R.size≤140737488355328:=hs.out
 go_enter Tryz.func91, Tryz.ntmps91
 go_wp2
 go_quiet (fail)
 go_wp2
 go_ret
 trace_state
 exact⟨rfl,below_drewN (Below.refl _ _) _⟩
end Go.Proofs.YtgnkkjknngblbaaGreatDoor
namespace Go.Proofs.Wd
theorem run_shut (key l r:List UInt8):run key [0,1,2,3] (l,r)=(stL (wkey key 3) (stL (wkey key 1) l (stR (wkey key 0) l r)) (stR (wkey key 2) (stL (wkey key 1) l (stR (wkey key 0) l r)) (stR (wkey key 0) l r)),stR (wkey key 2) (stL (wkey key 1) l (stR (wkey key 0) l r)) (stR (wkey key 0) l r)):=by
 rw[run_cons,stp_even _ _ _ _ (by decide),run_cons,stp_odd _ _ _ _ (by decide),run_cons,stp_even _ _ _ _ (by decide),run_cons,stp_odd _ _ _ _ (by decide),run_nil]
theorem run_open (key l r:List UInt8):run key [3,2,1,0] (l,r)=(stL (wkey key 1) (stL (wkey key 3) l r) (stR (wkey key 2) (stL (wkey key 3) l r) r),stR (wkey key 0) (stL (wkey key 1) (stL (wkey key 3) l r) (stR (wkey key 2) (stL (wkey key 3) l r) r)) (stR (wkey key 2) (stL (wkey key 3) l r) r)):=by
 rw[run_cons,stp_odd _ _ _ _ (by decide),run_cons,stp_even _ _ _ _ (by decide),run_cons,stp_odd _ _ _ _ (by decide),run_cons,stp_even _ _ _ _ (by decide),run_nil]
end Go.Proofs.Wd
namespace Go.Proofs.YtgnkkjknngblbaaGreatDoor
open Go.RowKit Go.Proofs.Fd Go.Proofs.Hs Go.Proofs.Cc Go.Proofs.Wd
set_option maxRecDepth 20000
theorem wba_app (a b:List UInt8):(⟨a.toArray⟩:ByteArray)++⟨b.toArray⟩=⟨(a++b).toArray⟩:=by
 apply ByteArray.ext
 simp
theorem sR_data (k l r:ByteArray):(sR k l r).data.toList=stR k.data.toList l.data.toList r.data.toList:=rfl
theorem sL_data (k l r:ByteArray):(sL k l r).data.toList=stL k.data.toList l.data.toList r.data.toList:=rfl
theorem sR_def (k l r:ByteArray):sR k l r=⟨(stR k.data.toList l.data.toList r.data.toList).toArray⟩:=rfl
theorem sL_def (k l r:ByteArray):sL k l r=⟨(stL k.data.toList l.data.toList r.data.toList).toArray⟩:=rfl
def bL (b:ByteArray):ByteArray:=b.extract 0 32
def bR (b:ByteArray):ByteArray:=b.extract 32 b.size
theorem bL_data (b:ByteArray):(bL b).data.toList=b.data.toList.take 32:=by
 have e:b=⟨b.data.toList.toArray⟩:=ba_of rfl
 unfold bL
 rw[e,ba_cut];simp
theorem bR_data (b:ByteArray):(bR b).data.toList=b.data.toList.drop 32:=by
 have e:b=⟨b.data.toList.toArray⟩:=ba_of rfl
 unfold bR
 rw[e,ba_cut,ba_sz]
 show (b.data.toList.drop 32).take _=b.data.toList.drop 32
 rw[List.take_of_length_le (by rw[List.length_drop];exact Nat.le_refl _)]
theorem bL_size (b:ByteArray) (h:64≤b.size):(bL b).size=32:=by rw[←list_sz,bL_data,List.length_take,list_sz];omega
theorem bR_size (b:ByteArray):(bR b).size=b.size - 32:=by rw[←list_sz,bR_data,List.length_drop,list_sz]
theorem shut_eq (key b:ByteArray):sL (wks key 3) (sL (wks key 1) (bL b) (sR (wks key 0) (bL b) (bR b))) (sR (wks key 2) (sL (wks key 1) (bL b) (sR (wks key 0) (bL b) (bR b))) (sR (wks key 0) (bL b) (bR b)))++sR (wks key 2) (sL (wks key 1) (bL b) (sR (wks key 0) (bL b) (bR b))) (sR (wks key 0) (bL b) (bR b))=⟨(shutl key.data.toList b.data.toList).toArray⟩:=by
 rw[sL_def (wks key 3),sR_def (wks key 2),wba_app]
 simp only[sR_data,sL_data,wks_data,bL_data,bR_data]
 unfold shutl trnd
 rw[run_shut]
theorem open_eq (key b:ByteArray):sL (wks key 1) (sL (wks key 3) (bL b) (bR b)) (sR (wks key 2) (sL (wks key 3) (bL b) (bR b)) (bR b))++sR (wks key 0) (sL (wks key 1) (sL (wks key 3) (bL b) (bR b)) (sR (wks key 2) (sL (wks key 3) (bL b) (bR b)) (bR b))) (sR (wks key 2) (sL (wks key 3) (bL b) (bR b)) (bR b))=⟨(openl key.data.toList b.data.toList).toArray⟩:=by
 rw[sL_def (wks key 1),sR_def (wks key 0),wba_app]
 simp only[sR_data,sL_data,wks_data,bL_data,bR_data]
 unfold openl trnd
 rw[run_open]
set_option maxHeartbeats 1000000 in
theorem Shut_ok (key b:ByteArray) (hb:64≤b.size) (hb2:b.size≤8192) (hk:Hid (key.size+64≤140737488355328)) (w:World) (hK:Hid (Kh w)) :
  Calls Tryz.prog 71 #[.string key,.string b] w fun e w'=>e = .returned (.tuple #[.string ⟨(shutl key.data.toList b.data.toList).toArray⟩,.int .i64 0])∧Below w.heap.size w w':=by
 have WR:Hid (∀w,Calls Tryz.prog 88 #[.int .i64 (b.size:Int)] w fun e w'=>e = .returned (.int .i64 0)∧w'=w):=fun w=>by
  have h:=wrong_any (b.size:Int) w
  rw[wmay_ok _ (by omega) (by omega)] at h
  exact h
 have PT:Hid (∀w,Kh w→Calls Tryz.prog 89 #[.string key,.string b] w fun e w'=>e = .returned (.agg #[.string (wks key 0),.string (wks key 1),.string (wks key 2),.string (wks key 3),.string (bL b),.string (bR b)])∧Below w.heap.size w w'):=fun w h=>parted_any key b hk hb hb2 w h
 have SZ:Hid ((bL b).size=32∧(bR b).size≤8192∧(wks key 0).size=32∧(wks key 1).size=32∧(wks key 2).size=32∧(wks key 3).size=32):=⟨bL_size b hb,by rw[bR_size b];omega,wks_size _ _ (by decide),wks_size _ _ (by decide),wks_size _ _ (by decide),wks_size _ _ (by decide)⟩
 rw[←shut_eq]
 generalize wks key 0=k0 at *
 generalize wks key 1=k1 at *
 generalize wks key 2=k2 at *
 generalize wks key 3=k3 at *
 generalize bL b=L at *
 generalize bR b=R at *
 have SH:Hid (∀(g:Nat) (w:World),HAt w g k0 k1 k2 k3 L R→Kh w → 1 < g→Calls Tryz.prog 103 #[.pointer (some ⟨g,0,none⟩)] w fun e w'=>e = .returned (.tuple #[])∧HAt w' g k0 k1 k2 k3 (sL k3 (sL k1 L (sR k0 L R)) (sR k2 (sL k1 L (sR k0 L R)) (sR k0 L R))) (sR k2 (sL k1 L (sR k0 L R)) (sR k0 L R))∧Below g w w'):=fun g w h1 h2 h3=>hshut_any g k0 k1 k2 k3 L R SZ.out.2.2 SZ.out.1 SZ.out.2.1 w h1 h2 h3
 have Z2:Hid (ByteArray.size (sL k3 (sL k1 L (sR k0 L R)) (sR k2 (sL k1 L (sR k0 L R)) (sR k0 L R)))+ByteArray.size (sR k2 (sL k1 L (sR k0 L R)) (sR k0 L R))≤140737488355328):=by
  rw[sL_size _ _ _ (sL_size _ _ _ SZ.out.1),sR_size,sR_size]
  have:=SZ.out.2.1
  show _≤_
  omega
 generalize (sL k3 (sL k1 L (sR k0 L R)) (sR k2 (sL k1 L (sR k0 L R)) (sR k0 L R)))=L' at *
 generalize (sR k2 (sL k1 L (sR k0 L R)) (sR k0 L R))=R' at *
 have WH:Hid (∀(g:Nat) (w:World),HAt w g k0 k1 k2 k3 L' R'→Calls Tryz.prog 91 #[.pointer (some ⟨g,0,none⟩)] w fun e w'=>e = .returned (.string (L'++R'))∧Below w.heap.size w w'):=fun g w h=>whole_any g k0 k1 k2 k3 L' R' Z2 w h
 go_enter Tryz.func71, Tryz.ntmps71
 go_wp2_with fail
 refine Calls.mono (WR.out _) ?_
 rintro e w1 ⟨rfl,hw1⟩
 have hw2:=hw1.symm
 subst hw2
 go_wp2_with fail
 refine Calls.mono (PT.out _ hK.out) ?_
 rintro e w2 ⟨rfl,hb2⟩
 have B2:Hid (Below w.heap.size w w2∧Kh w2):=⟨hb2,hK.out.later hb2⟩
 clear hb2 PT WR hw1
 go_wp2_with fail
 refine Calls.mono (SH.out w2.heap.size _ (HAt.new _ _ _ _ _ _ _ _) (B2.out.2.alloc _) B2.out.2.1) ?_
 rintro e w3 ⟨rfl,h3,hb3⟩
 have B3:Hid (HAt w3 w2.heap.size k0 k1 k2 k3 L' R'∧Below w.heap.size w w3):=⟨h3,chain B2.out.1 (((Below.refl _ _).alloc (Nat.le_refl _) _).trans hb3)⟩
 clear h3 hb3 SH
 go_wp2_with fail
 refine Calls.mono (WH.out w2.heap.size _ B3.out.1) ?_
 rintro e w4 ⟨rfl,hb4⟩
 have B4:Hid (Below w.heap.size w w4):=chain B3.out.2 hb4
 clear hb4 WH
 go_wp2
 go_ret2
 exact⟨rfl,B4.out⟩
set_option maxHeartbeats 1000000 in
theorem Shut_no (key b:ByteArray) (h:Hid (wmay (b.size:Int)≠0)) (w:World) :
  Calls Tryz.prog 71 #[.string key,.string b] w fun e w'=>e = .returned (.tuple #[.string ⟨#[]⟩,.int .i64 (wmay (b.size:Int))])∧Below w.heap.size w w':=by
 have WR:Hid (∀w,Calls Tryz.prog 88 #[.int .i64 (b.size:Int)] w fun e w'=>e = .returned (.int .i64 (wmay (b.size:Int)))∧w'=w):=fun w=>wrong_any (b.size:Int) w
 obtain⟨e0,he⟩:∃e0,wmay (b.size:Int)=e0:=⟨_,rfl⟩
 rw[he] at WR h ⊢
 have hne:¬e0=0:=h.out
 clear he h
 go_enter Tryz.func71, Tryz.ntmps71
 go_wp2_with fail
 refine Calls.mono (WR.out _) ?_
 rintro e w1 ⟨rfl,hw1⟩
 have hw2:=hw1.symm
 subst hw2
 clear WR hw1
 go_wp2
 go_ret2
 exact⟨rfl,Below.refl _ _⟩
set_option maxHeartbeats 1000000 in
theorem Open_ok (key b:ByteArray) (hb:64≤b.size) (hb2:b.size≤8192) (hk:Hid (key.size+64≤140737488355328)) (w:World) (hK:Hid (Kh w)) :
  Calls Tryz.prog 56 #[.string key,.string b] w fun e w'=>e = .returned (.tuple #[.string ⟨(openl key.data.toList b.data.toList).toArray⟩,.int .i64 0])∧Below w.heap.size w w':=by
 have WR:Hid (∀w,Calls Tryz.prog 88 #[.int .i64 (b.size:Int)] w fun e w'=>e = .returned (.int .i64 0)∧w'=w):=fun w=>by
  have h:=wrong_any (b.size:Int) w
  rw[wmay_ok _ (by omega) (by omega)] at h
  exact h
 have PT:Hid (∀w,Kh w→Calls Tryz.prog 89 #[.string key,.string b] w fun e w'=>e = .returned (.agg #[.string (wks key 0),.string (wks key 1),.string (wks key 2),.string (wks key 3),.string (bL b),.string (bR b)])∧Below w.heap.size w w'):=fun w h=>parted_any key b hk hb hb2 w h
 have SZ:Hid ((bL b).size=32∧(bR b).size≤8192∧(wks key 0).size=32∧(wks key 1).size=32∧(wks key 2).size=32∧(wks key 3).size=32):=⟨bL_size b hb,by rw[bR_size b];omega,wks_size _ _ (by decide),wks_size _ _ (by decide),wks_size _ _ (by decide),wks_size _ _ (by decide)⟩
 rw[←open_eq]
 generalize wks key 0=k0 at *
 generalize wks key 1=k1 at *
 generalize wks key 2=k2 at *
 generalize wks key 3=k3 at *
 generalize bL b=L at *
 generalize bR b=R at *
 have SH:Hid (∀(g:Nat) (w:World),HAt w g k0 k1 k2 k3 L R→Kh w → 1 < g→Calls Tryz.prog 90 #[.pointer (some ⟨g,0,none⟩)] w fun e w'=>e = .returned (.tuple #[])∧HAt w' g k0 k1 k2 k3 (sL k1 (sL k3 L R) (sR k2 (sL k3 L R) R)) (sR k0 (sL k1 (sL k3 L R) (sR k2 (sL k3 L R) R)) (sR k2 (sL k3 L R) R))∧Below g w w'):=fun g w h1 h2 h3=>hopen_any g k0 k1 k2 k3 L R SZ.out.2.2 SZ.out.1 SZ.out.2.1 w h1 h2 h3
 have Z2:Hid (ByteArray.size (sL k1 (sL k3 L R) (sR k2 (sL k3 L R) R))+ByteArray.size (sR k0 (sL k1 (sL k3 L R) (sR k2 (sL k3 L R) R)) (sR k2 (sL k3 L R) R))≤140737488355328):=by
  rw[sL_size _ _ _ (sL_size _ _ _ SZ.out.1),sR_size,sR_size]
  have:=SZ.out.2.1
  show _≤_
  omega
 generalize (sR k0 (sL k1 (sL k3 L R) (sR k2 (sL k3 L R) R)) (sR k2 (sL k3 L R) R))=R' at *
 generalize (sL k1 (sL k3 L R) (sR k2 (sL k3 L R) R))=L' at *
 have WH:Hid (∀(g:Nat) (w:World),HAt w g k0 k1 k2 k3 L' R'→Calls Tryz.prog 91 #[.pointer (some ⟨g,0,none⟩)] w fun e w'=>e = .returned (.string (L'++R'))∧Below w.heap.size w w'):=fun g w h=>whole_any g k0 k1 k2 k3 L' R' Z2 w h
 go_enter Tryz.func56, Tryz.ntmps56
 go_wp2_with fail
 refine Calls.mono (WR.out _) ?_
 rintro e w1 ⟨rfl,hw1⟩
 have hw2:=hw1.symm
 subst hw2
 go_wp2_with fail
 refine Calls.mono (PT.out _ hK.out) ?_
 rintro e w2 ⟨rfl,hb2⟩
 have B2:Hid (Below w.heap.size w w2∧Kh w2):=⟨hb2,hK.out.later hb2⟩
 clear hb2 PT WR hw1
 go_wp2_with fail
 refine Calls.mono (SH.out w2.heap.size _ (HAt.new _ _ _ _ _ _ _ _) (B2.out.2.alloc _) B2.out.2.1) ?_
 rintro e w3 ⟨rfl,h3,hb3⟩
 have B3:Hid (HAt w3 w2.heap.size k0 k1 k2 k3 L' R'∧Below w.heap.size w w3):=⟨h3,chain B2.out.1 (((Below.refl _ _).alloc (Nat.le_refl _) _).trans hb3)⟩
 clear h3 hb3 SH
 go_wp2_with fail
 refine Calls.mono (WH.out w2.heap.size _ B3.out.1) ?_
 rintro e w4 ⟨rfl,hb4⟩
 have B4:Hid (Below w.heap.size w w4):=chain B3.out.2 hb4
 clear hb4 WH
 go_wp2
 go_ret2
 exact⟨rfl,B4.out⟩
set_option maxHeartbeats 1000000 in
theorem Open_no (key b:ByteArray) (h:Hid (wmay (b.size:Int)≠0)) (w:World) :
  Calls Tryz.prog 56 #[.string key,.string b] w fun e w'=>e = .returned (.tuple #[.string ⟨#[]⟩,.int .i64 (wmay (b.size:Int))])∧Below w.heap.size w w':=by
 have WR:Hid (∀w,Calls Tryz.prog 88 #[.int .i64 (b.size:Int)] w fun e w'=>e = .returned (.int .i64 (wmay (b.size:Int)))∧w'=w):=fun w=>wrong_any (b.size:Int) w
 obtain⟨e0,he⟩:∃e0,wmay (b.size:Int)=e0:=⟨_,rfl⟩
 rw[he] at WR h ⊢
 have hne:¬e0=0:=h.out
 clear he h
 go_enter Tryz.func56, Tryz.ntmps56
 go_wp2_with fail
 refine Calls.mono (WR.out _) ?_
 rintro e w1 ⟨rfl,hw1⟩
 have hw2:=hw1.symm
 subst hw2
 clear WR hw1
 go_wp2
 go_ret2
 exact⟨rfl,Below.refl _ _⟩
theorem shut_c:ShutC:=fun k b w hk _ hK=>by
 by_cases h:wmay (b.size:Int)=0
 ·obtain⟨h1,h2⟩:=wmay_zero _ h
  rw[shV_ok k b (by omega) (by omega)]
  exact Shut_ok k b (by omega) (by omega) hk w hK
 ·rw[shV_no k b h]
  exact Shut_no k b h w
theorem open_c:OpenC:=fun k b w hk _ hK=>by
 by_cases h:wmay (b.size:Int)=0
 ·obtain⟨h1,h2⟩:=wmay_zero _ h
  rw[opV_ok k b (by omega) (by omega)]
  exact Open_ok k b (by omega) (by omega) hk w hK
 ·rw[opV_no k b h]
  exact Open_no k b h w
end Go.Proofs.YtgnkkjknngblbaaGreatDoor
namespace Go.Proofs.Wd
theorem pln_copied (t:List UInt8) (n:Nat):(pln t n 0).take 34++t++(pln t n 0).drop (34+t.length)=plainl t n:=by
 unfold pln plainl
 generalize hz:List.replicate 32 (0:UInt8)=Z
 have lz:Z.length=32:=by rw[←hz,List.length_replicate]
 have l2:(Z++[UInt8.ofNat (t.length / 256),UInt8.ofNat t.length]).length=34:=by simp[lz]
 have e1:(Z++[UInt8.ofNat (t.length / 256),UInt8.ofNat t.length]).drop 34=[]:=List.drop_of_length_le (by rw[l2];exact Nat.le_refl _)
 have e2:(Z++[UInt8.ofNat (t.length / 256),UInt8.ofNat t.length]).take 34=Z++[UInt8.ofNat (t.length / 256),UInt8.ofNat t.length]:=List.take_of_length_le (by rw[l2];exact Nat.le_refl _)
 rw[List.take_zero,List.append_nil,List.take_append_of_le_length (by rw[l2];exact Nat.le_refl _),e2,←List.drop_drop,List.drop_append_of_le_length (by rw[l2];exact Nat.le_refl _),e1,List.nil_append,List.drop_replicate,Nat.sub_zero]
end Go.Proofs.Wd
namespace Go.Proofs.YtgnkkjknngblbaaGreatDoor
open Go.RowKit Go.Proofs.Fd Go.Proofs.Hs Go.Proofs.Cc Go.Proofs.Wd
set_option maxRecDepth 20000
theorem wcopy_at (w:World) (b o n cap:Nat) (s:ByteArray) (m:Nat) (hm:Nat.min s.size n=m)
  (hc:∀j,j < n→(w.cell? ⟨b,o+j,none⟩).isSome=true) (hf:∀j,j < n→w.frozen? ⟨b,o+j,none⟩=false) :
  (Builtin.copy_ #[43, 9] 3 #[.slice (some ⟨b,o,none⟩) n cap,.string s]).run Tryz.prog w = .ok (.int .i64 (m:Int)) (w.setCells b o ((s.data.toList.take m).map fun x=>Value.int .u8 (x.toNat:Int))):=by
 have hmn:m≤n:=by rw[←hm];exact Nat.min_le_right _ _
 have hms:m≤s.size:=by rw[←hm];exact Nat.min_le_left _ _
 have hl:((s.data.toList.take m).map fun x=>Value.int .u8 (x.toNat:Int)).length=m:=by
  rw[List.length_map,List.length_take]
  have:s.data.toList.length=s.size:=by simp
  omega
 have hst:=run_storeCells_cells (P:=Tryz.prog) b o ((s.data.toList.take m).map fun x=>Value.int .u8 (x.toNat:Int)) 0 w
  (by rw[hl];intro j hj;simpa using hc j (by omega)) (by rw[hl];intro j hj;simpa using hf j (by omega))
  (by intro v hv;obtain⟨x,_,rfl⟩:=List.mem_map.1 hv;rfl)
 simp[Builtin.copy_,run_underlying Tryz.underlying43, Builtin.lenOf,Builtin.firstCells,hm]
 rw[←List.map_take,hst]
 rfl
theorem BytesAt.wcopied {w:World} {b:Nat} {l:List UInt8} (h:BytesAt w b l) (o:Nat) (xs:List UInt8) (hx:o+xs.length≤l.length) :
  BytesAt (w.setCells b o (xs.map fun x=>Value.int .u8 (x.toNat:Int))) b (l.take o++xs++l.drop (o+xs.length)):=fun j hj=>by
 have hj':j < l.length:=by rw[List.length_append,List.length_append,List.length_take,List.length_drop] at hj;omega
 obtain⟨h0,h1⟩:=h j hj'
 refine⟨?_,by rw[World.frozen?_setCells];exact h1⟩
 have key:=List.getElem?_eq_getElem hj
 generalize (l.take o++xs++l.drop (o+xs.length))[j]=v at key ⊢
 by_cases hlo:j < o
 ·rw[World.cell?_setCells_out b _ o w _ (fun _ _ => .inl hlo),h0]
  rw[List.append_assoc,List.getElem?_append_left (by rw[List.length_take];omega),List.getElem?_take_of_lt hlo,List.getElem?_eq_getElem hj'] at key
  rw[Option.some.inj key]
 ·by_cases hhi:j < o+xs.length
  ·have hx2:j - o < xs.length:=by omega
   have:=World.cell?_setCells_in b (xs.map fun x=>Value.int .u8 (x.toNat:Int)) o w (fun i hi=>by
    rw[List.length_map] at hi
    rw[(h (o+i) (by omega)).1];rfl) (j - o) (by rw[List.length_map];exact hx2)
   rw[show o+(j - o)=j by omega] at this
   rw[List.append_assoc,List.getElem?_append_right (by rw[List.length_take];omega),List.length_take,Nat.min_eq_left (by omega),List.getElem?_append_left hx2,List.getElem?_eq_getElem hx2] at key
   rw[this,List.getElem_map,Option.some.inj key]
  ·rw[World.cell?_setCells_out b _ o w _ (fun _ _ => .inr (by rw[List.length_map];show o+xs.length≤j;omega)),h0]
   rw[List.getElem?_append_right (by rw[List.length_append,List.length_take];omega),List.length_append,List.length_take,Nat.min_eq_left (by omega),List.getElem?_drop,show o+xs.length+(j - (o+xs.length))=j by omega,List.getElem?_eq_getElem hj'] at key
   rw[Option.some.inj key]
theorem laid_plain (t : ByteArray) (y : Int) (hy : y = (t.size : Int) % 256) (n : Nat) (w : World) (h0 : 64 ≤ n) (h1 : t.size + 34 ≤ n) (h2 : n ≤ 8192) : ∃ A E F : World, (Instr.makeSlice 43 (.int .i64 (n : Int)) (.int .i64 (n : Int))).run Tryz.prog w = .ok (.slice (some ⟨w.heap.size, 0, none⟩) n n) A
        ∧ (∃v,A.cell? ⟨w.heap.size,32,none⟩=some v∧A.frozen? ⟨w.heap.size,32,none⟩=false)∧(∃v,A.cell? ⟨w.heap.size,33,none⟩=some v∧A.frozen? ⟨w.heap.size,33,none⟩=false)
        ∧ (A.setCell ⟨w.heap.size,32,none⟩ (.int .u8 ((t.size:Int) / 256))).setCell ⟨w.heap.size,33,none⟩ (.int .u8 y)=E
        ∧ (Builtin.copy_ #[43, 9] 3 #[.slice (some ⟨w.heap.size,34,none⟩) (n - 34) (n - 34),.string t]).run Tryz.prog E = .ok (.int .i64 (t.size:Int)) F
        ∧ BytesAt F w.heap.size (plainl t.data.toList n)∧Below w.heap.size w F:=by
      obtain⟨A,CA,BA,bA,sA⟩:=make_n n (by omega) w
      have lt:t.data.toList.length=t.size:=list_sz t
      have BE:=(BA.set 32 (UInt8.ofNat (t.data.toList.length / 256)) ((t.size:Int) / 256) (by rw[UInt8.toNat_ofNat',lt];omega)).set 33 (UInt8.ofNat t.data.toList.length) y (by rw[UInt8.toNat_ofNat',lt];omega)
      rw[pln_zero _ n (by omega)] at BE
      have lE:(pln t.data.toList n 0).length=n:=pln_len _ _ _ (Nat.zero_le _) (by omega)
      have CP:=wcopy_at ((A.setCell ⟨w.heap.size,32,none⟩ (.int .u8 ((t.size:Int) / 256))).setCell ⟨w.heap.size,33,none⟩ (.int .u8 y)) w.heap.size 34 (n - 34) (n - 34) t t.size (Nat.min_eq_left (by omega)) (fun j hj=>by rw[(BE (34+j) (by omega)).1];rfl) (fun j hj=>(BE (34+j) (by omega)).2)
      rw[List.take_of_length_le (by rw[lt];exact Nat.le_refl _)] at CP
      have BF:=BE.wcopied 34 t.data.toList (by omega)
      rw[pln_copied] at BF
      exact⟨A,_,_,CA,BA.some 32 (by rw[List.length_replicate];omega),BA.some 33 (by rw[List.length_replicate];omega),rfl,CP,BF,below_setCells (Nat.le_refl _) _ _ _ ((bA.setCell (p:=⟨w.heap.size,32,none⟩) (Nat.le_refl _) _).setCell (p:=⟨w.heap.size,33,none⟩) (Nat.le_refl _) _)⟩
end Go.Proofs.YtgnkkjknngblbaaGreatDoor
