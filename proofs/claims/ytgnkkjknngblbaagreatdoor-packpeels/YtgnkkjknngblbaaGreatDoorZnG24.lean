/- Parts: KD2,KD3,KE,PD,PE,PF. -/
import Derived.Test.YtgnkkjknngblbaaGreatDoorZnG23
import Derived.Test.YtgnkkjknngblbaaGreatDoorZnG20
namespace Go.Proofs.YtgnkkjknngblbaaGreatDoor
open Go.RowKit Go.Proofs.Fd Go.Proofs.Hs
set_option maxRecDepth 20000
theorem ba_size (l:List UInt8):(⟨l.toArray⟩:ByteArray).size=l.length:=by
 show l.toArray.size=_;simp
set_option maxHeartbeats 2000000 in
theorem rExpand_ok (key info:ByteArray) (n:Nat) (hn:n≤8160) (hk:Hid (key.size≤140737488355328)) (hi:Hid (info.size+97≤140737488355328)) (w:World) :
  Calls Tryz.prog 104 #[.string key,.string info,.int .i64 (n:Int)] w fun e w'=>e = .returned (.tuple #[.string ⟨(xpn key.data.toList info.data.toList n).toArray⟩,.int .i64 0])∧Below w.heap.size w w':=by
 have TG:Hid (∀(t:ByteArray) (w:World),t.size+64≤140737488355328→Calls Tryz.prog 76 #[.string key,.string t] w fun e w'=>e = .returned (.string ⟨(hmac key.data.toList t.data.toList).toArray⟩)∧Below w.heap.size w w'):=fun t w h=>rTag_any key t hk h w
 have g1:¬(n:Int) < 0:=by omega
 have g2:¬(8160:Int) < (n:Int):=by omega
 have g3:(n:Int)≤8160:=by omega
 go_enter Tryz.func104, Tryz.ntmps104
 go_wp2
 go_loopw [8,9,10] (fun o l i wr=>∃j:Nat,32*j < n+32∧o = .string ⟨(tgs key.data.toList info.data.toList j).toArray⟩∧l = .string ⟨(tg key.data.toList info.data.toList j).toArray⟩∧i = .int .i64 ((j+1:Nat):Int)∧Hid (Below w.heap.size w wr)) (fun _ _ i _=>8192 - (intOf i).toNat)
 case atStart=>exact⟨0,by omega,rfl,rfl,rfl,Below.refl _ _⟩
 case round =>
  obtain⟨j,hj,rfl,rfl,rfl,I⟩:=hrel
  have zO:Hid ((⟨(tgs key.data.toList info.data.toList j).toArray⟩:ByteArray).size=32*j):=by show _=_;rw[ba_size,tgs_len]
  by_cases hlt:32*j < n
  ·obtain⟨p,hp⟩:∃p,j+1=p:=⟨_,rfl⟩
   have hp255:p≤255:=by omega
   obtain⟨b,hb⟩:∃b,UInt8.ofNat p=b:=⟨_,rfl⟩
   have eb:IntKind.u8.wrap (p:Int)=(b.toNat:Int):=by rw[IntKind.wrap_u8,←hb,UInt8.toNat_ofNat'];omega
   have eb2:(p:Int) % 256=(b.toNat:Int):=by rw[←hb,UInt8.toNat_ofNat'];omega
   have CB:(convert 43 9 (.slice (some ⟨wr.heap.size,0,none⟩) 1 1)).run Tryz.prog (wr.alloc (.cells #[.int .u8 (b.toNat:Int)] 5)) = .ok (.string ⟨[b].toArray⟩) (wr.alloc (.cells #[.int .u8 (b.toNat:Int)] 5)):=by
    have h:BytesAt (wr.alloc (.cells #[.int .u8 (b.toNat:Int)] 5)) wr.heap.size [b]:=fun i hi=>by
     obtain rfl:i=0:=by simp at hi;omega
     exact⟨by rw[World.cell?_alloc_new];rfl,by simp[go_sem]⟩
    exact h.string rfl
   have zL:Hid ((⟨(tg key.data.toList info.data.toList j).toArray⟩:ByteArray).size≤32):=by
    show _≤_
    rw[ba_size]
    cases j with
    | zero=>exact Nat.zero_le _
    | succ j=>rw[tg_len];exact Nat.le_refl _
   have T1:Hid (∀w,Calls Tryz.prog 76 #[.string key,.string ((⟨(tg key.data.toList info.data.toList j).toArray⟩:ByteArray)++info++⟨[b].toArray⟩)] w fun e w'=>e = .returned (.string ⟨(tg key.data.toList info.data.toList (j+1)).toArray⟩)∧Below w.heap.size w w'):=fun w=>by
    have h:=TG.out ((⟨(tg key.data.toList info.data.toList j).toArray⟩:ByteArray)++info++⟨[b].toArray⟩) w (by
     rw[ByteArray.size_append,ByteArray.size_append]
     have h1:=hi.out
     have h2:=zL.out
     have h3:(⟨[b].toArray⟩:ByteArray).size=1:=rfl
     omega)
    have e:((⟨(tg key.data.toList info.data.toList j).toArray⟩:ByteArray)++info++⟨[b].toArray⟩).data.toList=tg key.data.toList info.data.toList j++info.data.toList++[UInt8.ofNat (j+1)]:=by
     rw[ByteArray.data_append,ByteArray.data_append,Array.toList_append,Array.toList_append,hp,hb]
    rw[e] at h
    exact h
   have NX:Hid ((⟨(tgs key.data.toList info.data.toList (j+1)).toArray⟩:ByteArray)=⟨(tgs key.data.toList info.data.toList j).toArray⟩++⟨(tg key.data.toList info.data.toList (j+1)).toArray⟩):=by
    show _=_
    apply ByteArray.ext
    rw[ByteArray.data_append,tgs_succ]
    simp
   have NL:Hid ((⟨(tg key.data.toList info.data.toList (j+1)).toArray⟩:ByteArray).size=32):=by show _=_;rw[ba_size,tg_len]
   obtain⟨O,hO⟩:∃X:ByteArray,⟨(tgs key.data.toList info.data.toList j).toArray⟩=X:=⟨_,rfl⟩
   obtain⟨L,hL⟩:∃X:ByteArray,⟨(tg key.data.toList info.data.toList j).toArray⟩=X:=⟨_,rfl⟩
   obtain⟨N,hN⟩:∃X:ByteArray,⟨(tg key.data.toList info.data.toList (j+1)).toArray⟩=X:=⟨_,rfl⟩
   obtain⟨Bb,hB⟩:∃X:ByteArray,⟨[b].toArray⟩=X:=⟨_,rfl⟩
   have zB:Hid (Bb.size=1):=by show _=_;rw[←hB];rfl
   have HN:Hid ((⟨(tg key.data.toList info.data.toList (j+1)).toArray⟩:ByteArray)=N):=hN
   rw[hO] at zO NX
   rw[hL] at zL T1
   rw[hN] at NX NL T1
   rw[hB] at CB T1
   rw[hO,hL,hp]
   have gO:(O.size:Int) < (n:Int):=by have:=zO.out;omega
   have f1:∀w,(Op.stringOp .add L info).run Tryz.prog w = .ok (.string (L++info)) w:=fun w=>run_string_add_sum _ _ _ (by have:=zL.out;have:=hi.out;omega)
   have f2:∀w,(Op.stringOp .add (L++info) Bb).run Tryz.prog w = .ok (.string (L++info++Bb)) w:=fun w=>run_string_add_sum _ _ _ (by rw[ByteArray.size_append];have:=zL.out;have:=hi.out;have:=zB.out;omega)
   have f3:∀w,(Op.stringOp .add O N).run Tryz.prog w = .ok (.string (O++N)) w:=fun w=>run_string_add_sum _ _ _ (by have:=zO.out;have:=NL.out;omega)
   have HP:Hid (j+1=p):=hp
   clear hO hL hN hB hb hp TG
   go_wp2_with fail
   refine Calls.mono (T1.out _) ?_
   rintro e w2 ⟨rfl,hb2⟩
   have B2:Hid (Below w.heap.size w w2):=chain (I.out.alloc I.out.size _) hb2
   clear hb2 CB T1
   go_wp2
   exact⟨⟨j+1,by omega,by rw[NX.out],by rw[HN.out],by have:=HP.out;congr 1;omega,B2.out⟩,by simp[intOf];omega⟩
  ·have gO:(n:Int)≤((⟨(tgs key.data.toList info.data.toList j).toArray⟩:ByteArray).size:Int):=by have:=zO.out;omega
   have EX:Hid ((⟨(xpn key.data.toList info.data.toList n).toArray⟩:ByteArray)=(⟨(tgs key.data.toList info.data.toList j).toArray⟩:ByteArray).extract 0 n):=by
    show _=_
    apply ByteArray.ext
    rw[←xpn_of key.data.toList info.data.toList n j (by omega),ByteArray.data_extract]
    simp
   generalize (⟨(tgs key.data.toList info.data.toList j).toArray⟩:ByteArray)=O at *
   generalize (⟨(tg key.data.toList info.data.toList j).toArray⟩:ByteArray)=L at *
   have gN:¬(O.size:Int) < (n:Int):=by omega
   have g0:(0:Int)≤(n:Int):=by omega
   clear TG
   go_wp2
   go_ret2
   exact⟨by rw[EX.out];rfl,I.out⟩
end Go.Proofs.YtgnkkjknngblbaaGreatDoor
namespace Go.Proofs.YtgnkkjknngblbaaGreatDoor
open Go.RowKit Go.Proofs.Fd Go.Proofs.Hs
set_option maxRecDepth 20000
set_option maxHeartbeats 1000000 in
theorem rDerive_ok (secret label:ByteArray) (n:Nat) (hn:n≤8160) (hk:Hid (secret.size+64≤140737488355328)) (hi:Hid (label.size+97≤140737488355328)) (w:World) :
  Calls Tryz.prog 74 #[.string secret,.string label,.int .i64 (n:Int)] w fun e w'=>e = .returned (.tuple #[.string ⟨(drv secret.data.toList label.data.toList n).toArray⟩,.int .i64 0])∧Below w.heap.size w w':=by
 have T1:Hid (∀w,Calls Tryz.prog 76 #[.string ⟨#[100,111,118,101,99,111,116,101]⟩,.string secret] w fun e w'=>e = .returned (.string ⟨(hmac [100,111,118,101,99,111,116,101] secret.data.toList).toArray⟩)∧Below w.heap.size w w'):=fun w=>rTag_any ⟨#[100,111,118,101,99,111,116,101]⟩ secret (by show (8:Nat)≤_;decide) hk w
 have E1:Hid (∀w,Calls Tryz.prog 104 #[.string ⟨(hmac [100,111,118,101,99,111,116,101] secret.data.toList).toArray⟩,.string label,.int .i64 (n:Int)] w fun e w'=>e = .returned (.tuple #[.string ⟨(drv secret.data.toList label.data.toList n).toArray⟩,.int .i64 0])∧Below w.heap.size w w'):=fun w=>rExpand_ok ⟨(hmac [100,111,118,101,99,111,116,101] secret.data.toList).toArray⟩ label n hn (by show _≤_;rw[ba_size,hmac_len];decide) hi w
 generalize (⟨(drv secret.data.toList label.data.toList n).toArray⟩:ByteArray)=R at *
 generalize (⟨(hmac [100,111,118,101,99,111,116,101] secret.data.toList).toArray⟩:ByteArray)=K at *
 go_enter Tryz.func74, Tryz.ntmps74
 go_wp2_with fail
 refine Calls.mono (T1.out _) ?_
 rintro e w1 ⟨rfl,hb⟩
 have B1:Hid (Below w.heap.size w w1):=hb
 clear hb T1
 go_wp2_with fail
 refine Calls.mono (E1.out _) ?_
 rintro e w2 ⟨rfl,hb⟩
 have B2:Hid (Below w.heap.size w w2):=chain B1.out hb
 clear hb E1
 go_wp2
 go_ret2
 exact⟨rfl,B2.out⟩
end Go.Proofs.YtgnkkjknngblbaaGreatDoor
namespace Go.Proofs.YtgnkkjknngblbaaGreatDoor
open Go.RowKit Go.Proofs.Fd Go.Proofs.Hs
set_option maxRecDepth 20000
def TagC:Prop:=∀(key:ByteArray) (a:Option Addr) (ks:List ByteArray) (n cap:Nat) (w:World),Hid (ks.length=n)→Hid (n*16+1024≤140737488355328)→Hid (key.size≤140737488355328)→Hid (∀s∈ks,s.size≤140737488355328)→Hid (Kh w)→Hid (StrAt w a ks) →
  Calls Tryz.prog 79 #[.string key,.slice a n cap] w fun e w'=>e = .returned (.string ⟨(hmac key.data.toList (jnd ks)).toArray⟩)∧Below w.heap.size w w'
def SameC:Prop:=∀(a b:ByteArray) (w:World),Hid (a.size≤140737488355328)→Hid (b.size≤140737488355328) →
  Calls Tryz.prog 50 #[.string a,.string b] w fun e w'=>e = .returned (.bool (a.toList == b.toList))∧Below w.heap.size w w'
def ExtractC:Prop:=∀(a b:ByteArray) (w:World),Hid (a.size≤140737488355328)→Hid (b.size≤140737488355328)→Hid (Kh w) →
  Calls Tryz.prog 63 #[.string a,.string b] w fun e w'=>e = .returned (.string ⟨(hmac a.data.toList b.data.toList).toArray⟩)∧Below w.heap.size w w'
def xpV (k i:ByteArray) (n:Int):Array Value:=if n < 0∨8160 < n then #[.string ⟨#[]⟩,.int .i64 1] else #[.string ⟨(xpn k.data.toList i.data.toList n.toNat).toArray⟩,.int .i64 0]
def drV (k i:ByteArray) (n:Int):Array Value:=if n < 0∨8160 < n then #[.string ⟨#[]⟩,.int .i64 1] else #[.string ⟨(drv k.data.toList i.data.toList n.toNat).toArray⟩,.int .i64 0]
def ExpandC:Prop:=∀(k i:ByteArray) (n:Int) (w:World),Hid (k.size≤140737488355328)→Hid (i.size+97≤140737488355328)→Hid (Kh w) →
  Calls Tryz.prog 62 #[.string k,.string i,.int .i64 n] w fun e w'=>e = .returned (.tuple (xpV k i n))∧Below w.heap.size w w'
def DeriveC:Prop:=∀(k i:ByteArray) (n:Int) (w:World),Hid (k.size+64≤140737488355328)→Hid (i.size+97≤140737488355328)→Hid (Kh w) →
  Calls Tryz.prog 27 #[.string k,.string i,.int .i64 n] w fun e w'=>e = .returned (.tuple (drV k i n))∧Below w.heap.size w w'
theorem drV_form (k i:ByteArray) (n:Int):∃(X:ByteArray) (e:Int),drV k i n=#[.string X,.int .i64 e]:=by
 unfold drV;split
 ·exact⟨_,_,rfl⟩
 ·exact⟨_,_,rfl⟩
theorem strAt3 {w:World} {B:Nat} {x y z:ByteArray} (h0:w.cell? ⟨B,0,none⟩=some (.string x)) (h1:w.cell? ⟨B,1,none⟩=some (.string y)) (h2:w.cell? ⟨B,2,none⟩=some (.string z)):StrAt w (some ⟨B,0,none⟩) [x,y,z]:=fun i hi=>by
 refine⟨B,0,rfl,?_⟩
 rcases (by simp at hi;omega:i=0∨i=1∨i=2) with rfl|rfl|rfl
 ·exact h0
 ·exact h1
 ·exact h2
theorem jnd_one (s:ByteArray):jnd [s]=s.data.toList:=by simp[jnd]
end Go.Proofs.YtgnkkjknngblbaaGreatDoor
namespace Go.Proofs.YtgnkkjknngblbaaGreatDoor
open Go.RowKit Go.Proofs.Fd Go.Proofs.Hs
set_option maxRecDepth 20000
set_option maxHeartbeats 1000000 in
theorem tag_any (xi xo:ByteArray) (a:Option Addr) (ks:List ByteArray) (n cap:Nat) (w:World) (hn:Hid (ks.length=n)) (hb:Hid (n*16+1024≤140737488355328)) (hx:Hid (xi.size≤140737488355328∧xo.size≤140737488355328)) (hs:Hid (∀s∈ks,s.size≤140737488355328)) (hK:Hid (Kh w)) (hc:Hid (StrAt w a ks)) :
  Calls Tryz.prog 99 #[.agg #[.string xi,.string xo],.slice a n cap] w fun e w'=>e = .returned (.string ⟨(sha (xo.data.toList++sha (xi.data.toList++jnd ks))).toArray⟩)∧Below w.heap.size w w':=by
 obtain⟨D,hD⟩:∃D:ByteArray,⟨(sha (xi.data.toList++jnd ks)).toArray⟩=D:=⟨_,rfl⟩
 have DL:Hid (D.size=32∧sha (xi.data.toList++jnd ks)=D.data.toList):=by rw[←hD];exact⟨rfl,rfl⟩
 rw[DL.out.2]
 obtain⟨R,hR⟩:∃R:ByteArray,⟨(sha (xo.data.toList++D.data.toList)).toArray⟩=R:=⟨_,rfl⟩
 rw[hR]
 have C2:Hid (∀(B b1:Nat) (w':World),Below w.heap.size w w'→w'.cell? ⟨B,0,none⟩=some (.slice (some ⟨b1,0,none⟩) 1 1)→w'.cell? ⟨B,1,none⟩=some (.slice a n cap)→w'.cell? ⟨b1,0,none⟩=some (.string xi)→Calls Tryz.prog 128 #[.slice (some ⟨B,0,none⟩) 2 2] w' fun e w''=>∃g cap',e = .returned (.slice (some ⟨g,0,none⟩) (n+1) cap')∧StrAt w'' (some ⟨g,0,none⟩) (xi::ks)∧Below w'.heap.size w' w''):=fun B b1 w' h0 h1 h2 h3 =>
  Concat_two B b1 xi a ks n cap hn hb w' h1 h2 h3 (StrAt.later hc.out h0 rfl)
 have SM1:Hid (∀(g cp:Nat) (w':World),Below w.heap.size w w'→StrAt w' (some ⟨g,0,none⟩) (xi::ks)→Calls Tryz.prog 127 #[.slice (some ⟨g,0,none⟩) (n+1) cp] w' fun e w''=>e = .returned (.string D)∧Below w'.heap.size w' w''):=fun g cp w' h0 h1=>by
  have k:=hK.out.later h0
  have h:=Sum_any (some ⟨g,0,none⟩) (xi::ks) (n+1) cp (by show (xi::ks).length=n+1;rw[List.length_cons,hn.out]) (by have:=hb.out;omega) w' k.1 k.2 h1 (fun s hs'=>by
   rcases List.mem_cons.1 hs' with rfl|h
   ·have:=hx.out.1;omega
   ·have:=hs.out s h;omega)
  rw[←hD]
  exact h
 have SM2:Hid (∀(B:Nat) (w':World),Below w.heap.size w w'→w'.cell? ⟨B,0,none⟩=some (.string xo)→w'.cell? ⟨B,1,none⟩=some (.string D)→Calls Tryz.prog 127 #[.slice (some ⟨B,0,none⟩) 2 2] w' fun e w''=>e = .returned (.string R)∧Below w'.heap.size w' w''):=fun B w' h0 h1 h2=>by
  have k:=hK.out.later h0
  have h:=Sum_any (some ⟨B,0,none⟩) [xo,D] 2 2 rfl (by omega) w' k.1 k.2 (strAt2 h1 h2) (fun s hs'=>by
   simp at hs'
   rcases hs' with rfl|rfl
   ·have:=hx.out.2;omega
   ·have:=DL.out.1;omega)
  rw[←hR]
  simpa using h
 clear hD hR
 obtain⟨W,hW⟩:∃W,w.alloc (.cells #[.string xi,.string xo] 118)=W:=⟨_,rfl⟩
 have BW:Hid (Below w.heap.size w W∧W.cell? ⟨w.heap.size,0,none⟩=some (.string xi)∧W.cell? ⟨w.heap.size,1,none⟩=some (.string xo)):=by
  rw[←hW]
  exact⟨(Below.refl _ _).alloc (Nat.le_refl _) _,by simp[go_sem],by simp[go_sem]⟩
 have KP:Hid (∀w',Below W.heap.size W w'→Below W.heap.size W w'∧w'.cell? ⟨w.heap.size,0,none⟩=some (.string xi)∧w'.cell? ⟨w.heap.size,1,none⟩=some (.string xo)):=fun w' h=>⟨h,cell_later h BW.out.2.1,cell_later h BW.out.2.2⟩
 have BB:Hid (∀w',Below W.heap.size W w'→Below w.heap.size w w'):=fun w' h=>chain BW.out.1 h
 go_enter Tryz.func99, Tryz.ntmps99
 go_wp2
 go_region_held3 (fun w'=>Below W.heap.size W w'∧w'.cell? ⟨w.heap.size,0,none⟩=some (.string xi)∧w'.cell? ⟨w.heap.size,1,none⟩=some (.string xo)) (first|exact KP.out _ (Below.refl _ _).drew|exact KP.out _ (chain (And.left (by assumption)) hb3)|exact KP.out _ (chain (And.left (by assumption)) hb2)|exact KP.out _ (chain (And.left (by assumption)) hb1)|exact KP.out _ (Below.alloc (And.left (by assumption)) (Below.size (And.left (by assumption))) _)|assumption) (first|(go_at_call 128;refine Calls.mono (C2.out (W.heap.size+1) W.heap.size _ (BB.out _ (And.left (by assumption))) ?_ ?_ ?_) ?_;(focus first|(simp[go_sem];done));(focus first|(simp[go_sem];done));(focus first|(simp[go_sem];done));rintro e w3 ⟨g,cp,rfl,SA,hb1⟩)|(go_at_call 127;revert SA;intro SA;refine Calls.mono (SM1.out _ _ _ (BB.out _ (And.left (by assumption))) SA) ?_;clear SA;rintro e w4 ⟨rfl,hb2⟩)|(go_at_call 127;refine Calls.mono (SM2.out _ _ (BB.out _ (And.left (by assumption))) ?_ ?_) ?_;(focus first|(simp[go_sem];done));(focus first|(simp[go_sem];done));rintro e w5 ⟨rfl,hb3⟩))
 all_goals
  rename_i hH
  have BF:Hid (Below w.heap.size w w5):=BB.out _ hH.1
  clear hH
  go_wp2
  go_ret
  exact⟨rfl,BF.out⟩
end Go.Proofs.YtgnkkjknngblbaaGreatDoor
namespace Go.Proofs.YtgnkkjknngblbaaGreatDoor
open Go.RowKit Go.Proofs.Fd Go.Proofs.Hs
set_option maxRecDepth 20000
theorem same_c:SameC:=fun a b w ha hb=>Same_any a b w ha hb
set_option maxHeartbeats 1000000 in
theorem tag_c:TagC:=fun key a ks n cap w hn hb hk hs hK hc=>by
 obtain⟨XI,hXI⟩:∃X:ByteArray,⟨(xk 54 key.data.toList).toArray⟩=X:=⟨_,rfl⟩
 obtain⟨XO,hXO⟩:∃X:ByteArray,⟨(xk 92 key.data.toList).toArray⟩=X:=⟨_,rfl⟩
 have PA:Hid (∀w',Kh w'→Calls Tryz.prog 98 #[.string key] w' fun e w''=>e = .returned (.agg #[.string XI,.string XO])∧Below w'.heap.size w' w''):=fun w' h=>by
  rw[←hXI,←hXO];exact padded_any key w' hk h
 have TG:Hid (∀w',Below w.heap.size w w'→Calls Tryz.prog 99 #[.agg #[.string XI,.string XO],.slice a n cap] w' fun e w''=>e = .returned (.string ⟨(hmac key.data.toList (jnd ks)).toArray⟩)∧Below w'.heap.size w' w''):=fun w' h=>by
  have h:=tag_any XI XO a ks n cap w' hn hb ⟨by rw[←hXI,ba_size,xk_len];decide,by rw[←hXO,ba_size,xk_len];decide⟩ hs (hK.out.later h) (StrAt.later hc.out h rfl)
  rw[←hXI,←hXO] at h ⊢
  exact h
 clear hXI hXO
 generalize (⟨(hmac key.data.toList (jnd ks)).toArray⟩:ByteArray)=R at *
 have BB:Hid (Kh w):=hK
 go_enter Tryz.func79, Tryz.ntmps79
 go_wp2_with fail
 refine Calls.mono (PA.out _ BB.out) ?_
 rintro e w1 ⟨rfl,hb1⟩
 have B1:Hid (Below w.heap.size w w1):=hb1
 clear hb1 PA
 go_wp2_with fail
 refine Calls.mono (TG.out _ B1.out) ?_
 rintro e w2 ⟨rfl,hb2⟩
 have B2:Hid (Below w.heap.size w w2):=chain B1.out hb2
 clear hb2 TG
 go_wp2
 go_ret
 exact⟨rfl,B2.out⟩
set_option maxHeartbeats 1000000 in
theorem extract_c:ExtractC:=fun a b w ha hb hK=>by
 have TG:Hid (∀(B:Nat) (w:World),Kh w→w.cell? ⟨B,0,none⟩=some (.string b)→Calls Tryz.prog 79 #[.string a,.slice (some ⟨B,0,none⟩) 1 1] w fun e w'=>e = .returned (.string ⟨(hmac a.data.toList b.data.toList).toArray⟩)∧Below w.heap.size w w'):=fun B w h h0=>by
  have h:=tag_c a (some ⟨B,0,none⟩) [b] 1 1 w rfl (by show _≤_;decide) ha (fun s hs=>by simp at hs;subst hs;exact hb.out) h (strAt1 h0)
  rw[jnd_one] at h
  exact h
 generalize (⟨(hmac a.data.toList b.data.toList).toArray⟩:ByteArray)=R at *
 go_enter Tryz.func63, Tryz.ntmps63
 go_wp2_with fail
 refine Calls.mono (TG.out w.heap.size _ (hK.out.alloc _) (by simp[go_sem])) ?_
 rintro e w1 ⟨rfl,hb1⟩
 have B1:Hid (Below w.heap.size w w1):=chain ((Below.refl _ _).alloc (Nat.le_refl _) _) hb1
 clear hb1 TG
 go_wp2
 go_ret
 exact⟨rfl,B1.out⟩
theorem Expand_no (key info:ByteArray) (n:Int) (h:n < 0∨8160 < n) (w:World) :
  Calls Tryz.prog 62 #[.string key,.string info,.int .i64 n] w fun e w'=>e = .returned (.tuple #[.string ⟨#[]⟩,.int .i64 1])∧Below w.heap.size w w':=by
 by_cases h1:n < 0
 ·go_enter Tryz.func62, Tryz.ntmps62
  go_wp2
  go_ret2
  exact⟨rfl,Below.refl _ _⟩
 ·have h2:8160 < n:=by omega
  clear h
  go_enter Tryz.func62, Tryz.ntmps62
  go_wp2
  go_ret2
  exact⟨rfl,Below.refl _ _⟩
end Go.Proofs.YtgnkkjknngblbaaGreatDoor
namespace Go.Proofs.YtgnkkjknngblbaaGreatDoor
open Go.RowKit Go.Proofs.Fd Go.Proofs.Hs
set_option maxRecDepth 20000
theorem own_bytesAt {w:World} {base g n cap:Nat} {l:List UInt8} (h:w.ownsRow base 5 1 (.slice (some ⟨g,0,none⟩) n cap) n (bcells l)):BytesAt w g l:=fun i hi=>by
 have hl:l.length=n:=by have:=h.1;simpa[bcells] using this
 refine⟨?_,h.frozenAt i⟩
 rw[h.cellAt i (by omega)]
 simp[bcells,hi]
theorem BytesAt.part {w:World} {b:Nat} {l:List UInt8} (h:BytesAt w b l) (n:Nat):BytesAt w b (l.take n):=fun j hj=>by
 have hj':j < l.length:=by rw[List.length_take] at hj;omega
 rw[List.getElem_take]
 exact h j hj'
set_option maxHeartbeats 2000000 in
theorem Expand_ok (key info:ByteArray) (n:Nat) (hn:n≤8160) (hk:Hid (key.size≤140737488355328)) (hi:Hid (info.size+97≤140737488355328)) (w:World) (hK:Hid (Kh w)) :
  Calls Tryz.prog 62 #[.string key,.string info,.int .i64 (n:Int)] w fun e w'=>e = .returned (.tuple #[.string ⟨(xpn key.data.toList info.data.toList n).toArray⟩,.int .i64 0])∧Below w.heap.size w w':=by
 obtain⟨XI,hXI⟩:∃X:ByteArray,⟨(xk 54 key.data.toList).toArray⟩=X:=⟨_,rfl⟩
 obtain⟨XO,hXO⟩:∃X:ByteArray,⟨(xk 92 key.data.toList).toArray⟩=X:=⟨_,rfl⟩
 have PA:Hid (∀w',Kh w'→Calls Tryz.prog 98 #[.string key] w' fun e w''=>e = .returned (.agg #[.string XI,.string XO])∧Below w'.heap.size w' w''):=fun w' h=>by
  rw[←hXI,←hXO];exact padded_any key w' hk h
 have g1:¬(n:Int) < 0:=by omega
 have g2:¬(8160:Int) < (n:Int):=by omega
 have g3:(n:Int)≤8160:=by omega
 go_enter Tryz.func62, Tryz.ntmps62
 go_wp2_with fail
 refine Calls.mono (PA.out _ hK.out) ?_
 rintro e w1 ⟨rfl,hb1⟩
 have B1:Hid (Below w.heap.size w w1∧Kh w1):=⟨hb1,hK.out.later hb1⟩
 clear hb1 PA
 obtain⟨i0,hii,hz0,hz1,hz2⟩:=info_parts infoByte
 obtain⟨A,hA⟩:∃A,w1.alloc (.cells #[.string XI,.string XO] 118)=A:=⟨_,rfl⟩
 have CA:Hid (A.cell? ⟨w1.heap.size,0,none⟩=some (.string XI)∧A.cell? ⟨w1.heap.size,1,none⟩=some (.string XO)∧Below w.heap.size w A∧w1.heap.size < A.heap.size):=by
  rw[←hA]
  exact⟨by simp[go_sem],by simp[go_sem],chain B1.out.1 ((Below.refl _ _).alloc (Nat.le_refl _) _),by simp⟩
 have hm:=run_make_own (P:=Tryz.prog) A A.heap.size 43 5 i0 (.int .u8 0) 1 Tryz.underlying43 hii hz0 hz1 .i64 .i64 (n+32) (by rw[hz2];omega) (by unfold maxLen;omega) (Nat.le_refl _)
 obtain⟨W,hmk,hown,hgrown⟩:=hm
 have OW:Hid (W.ownsRow A.heap.size 5 1 (.slice (some ⟨A.heap.size,0,none⟩) 0 (n+32)) 0 []∧Below A.heap.size A W):=⟨hown,(Below.refl _ _).grown hgrown (Nat.le_refl _) (fun k h=>by cases h)⟩
 have e2:((n+32:Nat):Int)=(n:Int)+32:=by omega
 rw[e2] at hmk
 have e3:IntKind.i64.wrap ((n:Int)+32)=(n:Int)+32:=by rw[IntKind.wrap_i64];omega
 clear hown hgrown e2
 have TG:Hid (∀(j B:Nat) (L Bb:ByteArray) (w':World),L.data.toList=tg key.data.toList info.data.toList j→Bb.data.toList=[UInt8.ofNat (j+1)]→L.size≤140737488355328→Bb.size≤140737488355328→Below w.heap.size w w'→w'.cell? ⟨B,0,none⟩=some (.string L)→w'.cell? ⟨B,1,none⟩=some (.string info)→w'.cell? ⟨B,2,none⟩=some (.string Bb)→Calls Tryz.prog 99 #[.agg #[.string XI,.string XO],.slice (some ⟨B,0,none⟩) 3 3] w' fun e w''=>e = .returned (.string ⟨(tg key.data.toList info.data.toList (j+1)).toArray⟩)∧Below w'.heap.size w' w''):=fun j B L Bb w' hL hB zL zB hw h0 h1 h2=>by
  have h:=tag_any XI XO (some ⟨B,0,none⟩) [L,info,Bb] 3 3 w' rfl (by show _≤_;decide) ⟨by rw[←hXI,ba_size,xk_len];decide,by rw[←hXO,ba_size,xk_len];decide⟩ (fun s hs=>by
   simp at hs
   rcases hs with rfl|rfl|rfl
   ·exact zL
   ·have:=hi.out;omega
   ·exact zB) (hK.out.later hw) (strAt3 h0 h1 h2)
  have e:sha (XO.data.toList++sha (XI.data.toList++jnd [L,info,Bb]))=tg key.data.toList info.data.toList (j+1):=by
   show _=hmac key.data.toList (tg key.data.toList info.data.toList j++info.data.toList++[UInt8.ofNat (j+1)])
   unfold hmac
   rw[←hXI,←hXO,←hL,←hB]
   simp[jnd]
  rw[e] at h
  exact h
 clear hXI hXO
 go_wp2
 go_loopw [9,10,11] (fun ah sl nu wr=>∃j g cap:Nat,32*j < n+32∧ah = .string ⟨(tg key.data.toList info.data.toList j).toArray⟩∧sl = .slice (some ⟨g,0,none⟩) (32*j) cap∧nu = .int .u8 ((UInt8.ofNat (j+1)).toNat:Int)∧Hid (wr.ownsRow A.heap.size 5 1 (.slice (some ⟨g,0,none⟩) (32*j) cap) (32*j) (bcells (tgs key.data.toList info.data.toList j))∧Below A.heap.size A wr)) (fun _ sl _ _=>8192 - (match sl with | .slice _ n _=>n|_=>0))
 case atStart=>exact⟨0,A.heap.size,n+32,by omega,rfl,rfl,rfl,OW.out⟩
 case round =>
  obtain⟨j,g,cap,hj,rfl,rfl,rfl,I⟩:=hrel
  clear OW hmk e3
  by_cases hlt:32*j < n
  ·have c0:=cell_later I.out.2 CA.out.1
   have c1:=cell_later I.out.2 CA.out.2.1
   have g4:32*(j:Int) < (n:Int):=by omega
   obtain⟨b,hbb⟩:∃b,UInt8.ofNat (j+1)=b:=⟨_,rfl⟩
   have NB:Hid (IntKind.u8.wrap ((b.toNat:Int)+1)=((UInt8.ofNat (j+1+1)).toNat:Int)):=by
    show _=_
    rw[IntKind.wrap_u8,←hbb,UInt8.toNat_ofNat',UInt8.toNat_ofNat'];omega
   have CB:(convert 43 9 (.slice (some ⟨wr.heap.size,0,none⟩) 1 1)).run Tryz.prog (wr.alloc (.cells #[.int .u8 (b.toNat:Int)] 5)) = .ok (.string ⟨[b].toArray⟩) (wr.alloc (.cells #[.int .u8 (b.toNat:Int)] 5)):=by
    have h:BytesAt (wr.alloc (.cells #[.int .u8 (b.toNat:Int)] 5)) wr.heap.size [b]:=fun i hi=>by
     obtain rfl:i=0:=by simp at hi;omega
     exact⟨by rw[World.cell?_alloc_new];rfl,by simp[go_sem]⟩
    exact h.string rfl
   obtain⟨L,hL⟩:∃X:ByteArray,⟨(tg key.data.toList info.data.toList j).toArray⟩=X:=⟨_,rfl⟩
   obtain⟨Bb,hB⟩:∃X:ByteArray,⟨[b].toArray⟩=X:=⟨_,rfl⟩
   obtain⟨N,hN⟩:∃X:ByteArray,⟨(tg key.data.toList info.data.toList (j+1)).toArray⟩=X:=⟨_,rfl⟩
   have zL:L.size≤140737488355328:=by
    rw[←hL,ba_size]
    cases j with
    | zero=>exact Nat.zero_le _
    | succ j=>rw[tg_len];decide
   have T1:Hid (∀(B:Nat) (w':World),Below w.heap.size w w'→w'.cell? ⟨B,0,none⟩=some (.string L)→w'.cell? ⟨B,1,none⟩=some (.string info)→w'.cell? ⟨B,2,none⟩=some (.string Bb)→Calls Tryz.prog 99 #[.agg #[.string XI,.string XO],.slice (some ⟨B,0,none⟩) 3 3] w' fun e w''=>e = .returned (.string N)∧Below w'.heap.size w' w''):=fun B w' hw h0 h1 h2=>by
    rw[←hN]
    exact TG.out j B L Bb w' (by rw[←hL]) (by rw[←hB,hbb]) zL (by rw[←hB];show (1:Nat)≤_;decide) hw h0 h1 h2
   have NN:Hid (N.size=32∧bcells (tgs key.data.toList info.data.toList (j+1))=bcells (tgs key.data.toList info.data.toList j)++Go.Lib.strCells N∧N=⟨(tg key.data.toList info.data.toList (j+1)).toArray⟩):=by
    refine⟨by rw[←hN,ba_size,tg_len],?_,hN.symm⟩
    rw[strCells_eq,tgs_succ,←hN]
    simp[bcells]
   rw[hB] at CB
   rw[hbb,hL]
   clear hL hB hN zL TG
   go_wp2_with fail
   refine Calls.mono (T1.out (wr.heap.size+1) _ (chain CA.out.2.2.1 ((I.out.2.alloc I.out.2.size _).alloc (by have:=I.out.2.size;simp;omega) _)) (by simp[go_sem]) (by simp[go_sem]) (by simp[go_sem])) ?_
   rintro e w3 ⟨rfl,hb3⟩
   have I3:Hid (w3.ownsRow A.heap.size 5 1 (.slice (some ⟨g,0,none⟩) (32*j) cap) (32*j) (bcells (tgs key.data.toList info.data.toList j))∧Below A.heap.size A w3):=by
    have hb':Below wr.heap.size wr w3:=chain (((Below.refl _ _).alloc (Nat.le_refl _) _).alloc (by simp) _) hb3
    exact⟨own_later I.out.1 hb',chain I.out.2 hb'⟩
   clear hb3 T1 CB c0 c1
   go_wp2_with (first
    | (at_builtin;refine Go.Lib.wpList_append_own_string _ rfl _ _ 43 9 rfl A.heap.size 5 i0 Tryz.underlying43 Tryz.underlying9 hii hz0 hz1 hz2 _ _ _ rfl I3.out.1 N rfl (by have:=NN.out.1;unfold maxLen;omega) (by have:=NN.out.1;omega) I3.out.2.size ?_;intro v1 w4 hown1 hgrow1 hnil1))
   rcases hown1.2 with ⟨h,-⟩|⟨g',cap',cur,hv,-,-,-⟩
   ·exact absurd (hnil1.1 h).1 (by intro q;cases q)
   ·subst hv
    rw[←NN.out.2.1,NN.out.1,show 32*j+32=32*(j+1) by omega] at hown1
    rw[NN.out.1,show 32*j+32=32*(j+1) by omega]
    refine⟨⟨j+1,g',cap',by omega,by rw[NN.out.2.2],rfl,by rw[←NB.out,IntKind.wrap_u8],hown1,I3.out.2.grown hgrow1 I3.out.2.size (fun q hq=>(I3.out.1.lt q hq).1)⟩,?_⟩
    show 8192 - 32*(j+1) < 8192 - 32*j
    omega
  ·have g4:¬32*(j:Int) < (n:Int):=by omega
   have OB:=own_bytesAt I.out.1
   have XP:=xpn_of key.data.toList info.data.toList n j (by omega)
   have CV:=(OB.part n).string (cap:=cap) (n:=n) (by rw[XP,xpn_len])
   rw[XP] at CV
   have gc:32*j≤cap:=by
    rcases I.out.1.2 with ⟨h,-⟩|⟨g',cap',cur,h,-,-,h2,-⟩
    ·cases h
    ·injection h with q1 q2 q3;omega
   have g5:(n:Int)≤(cap:Int):=by omega
   obtain⟨R,hR⟩:∃X:ByteArray,⟨(xpn key.data.toList info.data.toList n).toArray⟩=X:=⟨_,rfl⟩
   have HR:Hid (_=_):=hR
   rw[hR] at CV
   clear hR OB XP
   have BF:Hid (Below w.heap.size w wr):=chain CA.out.2.2.1 I.out.2
   go_wp2
   rw[HR.out]
   go_ret2
   exact⟨rfl,BF.out⟩
theorem expand_c:ExpandC:=fun k i n w hk hi hK=>by
 unfold xpV
 by_cases h:n < 0∨8160 < n
 ·rw[if_pos h];exact Expand_no k i n h w
 ·rw[if_neg h]
  obtain⟨m,rfl⟩:∃m:Nat,n=(m:Int):=⟨n.toNat,by omega⟩
  exact Expand_ok k i m (by omega) hk hi w hK
set_option maxHeartbeats 1000000 in
theorem derive_c:DeriveC:=fun k i n w hk hi hK=>by
 have EX:Hid (∀w',Kh w'→Calls Tryz.prog 63 #[.string ⟨#[100,111,118,101,99,111,116,101]⟩,.string k] w' fun e w''=>e = .returned (.string ⟨(hmac [100,111,118,101,99,111,116,101] k.data.toList).toArray⟩)∧Below w'.heap.size w' w''):=fun w' h=>extract_c ⟨#[100,111,118,101,99,111,116,101]⟩ k w' (by show (8:Nat)≤_;decide) (by have:=hk.out;show _≤_;omega) h
 have XE:Hid (∀w',Kh w'→Calls Tryz.prog 62 #[.string ⟨(hmac [100,111,118,101,99,111,116,101] k.data.toList).toArray⟩,.string i,.int .i64 n] w' fun e w''=>e = .returned (.tuple (drV k i n))∧Below w'.heap.size w' w''):=fun w' h=>by
  have h:=expand_c ⟨(hmac [100,111,118,101,99,111,116,101] k.data.toList).toArray⟩ i n w' (by rw[ba_size,hmac_len];show (32:Nat)≤_;decide) hi h
  exact h
 obtain⟨X,e,hX⟩:=drV_form k i n
 rw[hX] at XE ⊢
 generalize (⟨(hmac [100,111,118,101,99,111,116,101] k.data.toList).toArray⟩:ByteArray)=S at *
 clear hX
 go_enter Tryz.func27, Tryz.ntmps27
 go_wp2_with fail
 refine Calls.mono (EX.out _ hK.out) ?_
 rintro e w1 ⟨rfl,hb1⟩
 have B1:Hid (Below w.heap.size w w1∧Kh w1):=⟨hb1,hK.out.later hb1⟩
 clear hb1 EX
 go_wp2_with fail
 refine Calls.mono (XE.out _ B1.out.2) ?_
 rintro e w2 ⟨rfl,hb2⟩
 have B2:Hid (Below w.heap.size w w2):=chain B1.out.1 hb2
 clear hb2 XE
 go_wp2
 go_ret2
 exact⟨rfl,B2.out⟩
end Go.Proofs.YtgnkkjknngblbaaGreatDoor
