/- A part of the walk. -/
import Derived.Test.YtjcppbhgjchjaaaGreatDoorZr3G30
import Derived.Deep.CutBlock
set_option maxHeartbeats 8000000
set_option maxRecDepth 20000
namespace Go.Proofs.YtjcppbhgjchjaaaGreatDoor.Sto
open Go.RowKit Go.Proofs.Fd Go.Proofs.Dk Go.Proofs.Lg
theorem zbI (w v:Wo) (p:Nat) (F:Nat->Prop) (s:St) (fr mn:Nat) (hl:s.l.length<=1000000) (h:Hid (Dl w v p F s)) :
  Cl 209 #[plc p fr mn] v fun e w'=>e = .returned (.int .i64 (syE s))/\Ds w v p F (syS s) w':=by
 have I0:Hid (Wr w v p F fr mn _ F s):=Wr.begin h.out fr mn 235;have SY:Hid (∀wr,Wr w v p F fr mn wr F s->Cl 283 #[.pointer (some ⟨p,0,none⟩)] wr fun e w'=>e = .returned (.int .i64 (syE s))/\Ds w v p F (syS s) w'):=fun wr k =>
  (zrs w wr p F s hl k.dl).mono fun _ _ ⟨he,F',h1,h2,h3⟩=>⟨he,(k.stp h1 h2 h3).ds⟩
 obtain⟨x,hx⟩:∃x,syE s=x:=⟨_,rfl⟩;obtain⟨t,ht⟩:∃t,syS s=t:=⟨_,rfl⟩;rw[hx,ht] at SY ⊢;clear hx ht h hl;go_enter Tryz.func209, Tryz.ntmps209;go_wp2_with fail;refine cM (SY.out _ I0.out) ?_;rintro e w1 ⟨rfl,hd⟩;have FF:Hid _:=hd;clear hd;go_wp2;go_ret;exact⟨rfl,FF.out⟩
theorem nb (w:Wo) (o:Obj):Bw w (w.alloc o):=(bQ _ _).alloc (nL _) _
theorem zct (w:Wo) (o:Obj) (cs:List Value) (ty:TypeId) (hn:cs≠[]):Blk ((w.alloc o).alloc (.cells cs.toArray ty)) (w.heap.size+1) cs:=by
 have:=Blk.new (w.alloc o) cs ty hn;rw[show (w.alloc o).heap.size=w.heap.size+1 by simp] at this;exact this
theorem zbn (w:Wo) (p fr mn:Nat) (h1:fr<=mn) (h2:mn<=4000):Cl 139 #[plc p fr mn] w fun e w'=>e = .returned (plc p (mn - fr) mn)/\Bw w w':=by
 have y1:IntKind.i64.wrap ((mn:Int) - (fr:Int))=((mn - fr:Nat):Int):=by rw[IntKind.wrap_i64];omega
 have e1:(mn:Int) - (fr:Int)=((mn - fr:Nat):Int):=by omega
 obtain⟨d,hd⟩:∃d,mn - fr=d:=⟨_,rfl⟩;rw[hd] at y1 e1 ⊢;have J1:Hid (_/\_):=And.intro (zct w (.cells #[.pointer (some ⟨p,0,none⟩),.int .i64 (fr:Int),.int .i64 (mn:Int)] 235) [.pointer (some ⟨p,0,none⟩),.int .i64 (d:Int),.int .i64 (mn:Int)] 235 (by simp)) (chain (nb w (.cells #[.pointer (some ⟨p,0,none⟩),.int .i64 (fr:Int),.int .i64 (mn:Int)] 235)) (nb _ (.cells #[.pointer (some ⟨p,0,none⟩),.int .i64 (d:Int),.int .i64 (mn:Int)] 235)));have hf:(fr:Int)<=(mn:Int):=by omega
 have hm:(mn:Int)<=4000:=by omega
 clear h1 h2 hd;unfold plc;go_enter Tryz.func139, Tryz.ntmps139;go_wp2;refine bodyPost_ret (v:=plc p d mn) ?_ rfl ⟨rfl,J1.out.2⟩;exact res_c1 Tryz.results139 _ _ (w.heap.size+1) _ (by kernel_rfl) (run_loadVar_mid _ (w.heap.size+1) 0 235 [.pointer (some ⟨p,0,none⟩),.int .i64 (d:Int),.int .i64 (mn:Int)] _ J1.out.1.r Tryz.underlying235 rfl (by kernel_rfl))
theorem zry {s:St} (h:s.down=true) (k:Int):rch s k=150:=if_pos h
theorem zl2 {s:St} (h:s.down=false) {k:Nat} (hk:k < s.n):rch s (k:Int)=0:=by
 unfold rch;rw[if_neg (by rw[h];simp),if_neg (by omega)]
theorem zpx {s:St} (h:s.down=false) {k:Nat} (hk:k < s.n):rdV s (k:Int)=s.sh k:=by
 unfold rdV;rw[if_pos (zl2 h hk),Int.toNat_natCast]
def rdA (s:St) (fr mn:Nat):Value:=if s.down=true then .tuple #[sv [],.int .i64 150] else .tuple #[sv (hb s fr mn),.int .i64 0]
theorem zfc (w:Wo):Lib.IsBuilder 348 5 w.heap.size w.heap.size (Lib.byteCells []) (w.alloc (.cells #[.pointer none,.slice none 0 0] 348)):=Lib.fresh_isBuilder _ _ w
theorem zdC (B:Nat) (l m:Bs) (w:Wo) (h:Lib.IsBuilder 348 5 B B (Lib.byteCells l) w) (hl:l.length+m.length<=1000000) (hB:B<=w.heap.size) :
  Cl 290 #[.pointer (some ⟨B,0,none⟩),.string (st m)] w fun e w'=>e = .returned (.tuple #[.int .i64 (m.length:Int),.nilIface])/\Lib.IsBuilder 348 5 B B (Lib.byteCells (l++m)) w'/\Below B w w':=by
 refine (Any.Builder_WriteString (ρ:=repAt) { repLies with } repMore B B (Lib.byteCells l) (st m) w h (by rw[Lib.byteCells_length,zaf];omega) hB).mono fun e w' ⟨he,h1,h2⟩=>⟨?_,.inr ?_,h2⟩
 ·rw[he,zaf]
 ·rw[Lib.byteCells_append]
  exact h1
theorem zcB (B:Nat) (l:Bs) (w:Wo) (h:Lib.IsBuilder 348 5 B B (Lib.byteCells l) w) (hB:B<=w.heap.size) :
  Cl 291 #[.pointer (some ⟨B,0,none⟩)] w fun e w'=>e = .returned (.string (st l))/\Below B w w':=Any.Builder_String_any (ρ:=repAt) { repLies with } repMore B B l w h hB
theorem zcu (w v:Wo) (p:Nat) (F:Nat->Prop) (s:St) (fr mn:Nat) (h1:1<=mn) (h2:fr+mn<=s.n) (h:Hid (Dl w v p F s)) :
  Cl 220 #[plc p fr mn] v fun e w'=>e = .returned (rdA s fr mn)/\Below v.heap.size v w':=by
 have OK:=h.out.at_.1;have hn:=OK.n2;have H64:Hid (∀k,(hb s fr k).length=64*k):=fun k=>zcQ OK fr k
 have P64:Hid (∀k,(s.sh k).length=64):=OK.sh64;have RD:Hid (∀(W:Wo) (k:Int),Below v.heap.size v W->Cl 289 #[.pointer (some ⟨p,0,none⟩),.int .i64 k] W fun e w'=>e = .returned (.tuple #[.string (st (rdV s k)),.int .i64 (rch s k)])/\w'=W):=fun W k hb=>zrt w W p F s k (h.out.later hb)
 have BK:Hid (_/\_):=And.intro (Blk.new v [.pointer (some ⟨p,0,none⟩),.int .i64 (fr:Int),.int .i64 (mn:Int)] 235 (by simp)) (nb v (.cells #[.pointer (some ⟨p,0,none⟩),.int .i64 (fr:Int),.int .i64 (mn:Int)] 235));obtain⟨va,hva⟩:∃va,v.alloc (.cells #[.pointer (some ⟨p,0,none⟩),.int .i64 (fr:Int),.int .i64 (mn:Int)] 235)=va:=⟨_,rfl⟩;have hsz:va.heap.size=v.heap.size+1:=by rw[<-hva];simp
 have BN:Hid (_/\_):=And.intro (zfc va) (nb va (.cells #[.pointer none,.slice none 0 0] 348));have WS:Hid (∀(l m:Bs) (W:Wo),_):=zdC (v.heap.size+1);have SS:Hid (∀(l:Bs) (W:Wo),_):=zcB (v.heap.size+1);obtain⟨vb,hvb⟩:∃vb,va.alloc (.cells #[.pointer none,.slice none 0 0] 348)=vb:=⟨_,rfl⟩;have HSZ:Hid (vb.heap.size=v.heap.size+2):=by
  show vb.heap.size=_;rw[<-hvb];simp[hsz]
 have BK':=BK.out;have BN':=BN.out;simp only[List.toArray] at BK';rw[hva] at BK';rw[hvb,hsz] at BN';have I0:Hid (Blk vb v.heap.size [.pointer (some ⟨p,0,none⟩),.int .i64 (fr:Int),.int .i64 (mn:Int)]/\Below v.heap.size v vb/\Lib.IsBuilder 348 5 (v.heap.size+1) (v.heap.size+1) (Lib.byteCells []) vb):=⟨BK'.1.below BN'.2 (by omega),BK'.2.trans (BN'.2.mono (by omega)),BN'.1⟩;clear BK' BN' BK BN OK;unfold plc;have g0:(0:Int) < (mn:Int):=by omega
 have gm:mn<=1024:=by omega
 have gf:fr<=1024:=by omega
 by_cases hd:s.down=true
 ·have HR:Hid (rdA s fr mn = .tuple #[.string ⟨#[]⟩,.int .i64 150]):=if_pos hd
  have R1:Hid (Cl 289 #[.pointer (some ⟨p,0,none⟩),.int .i64 (fr:Int)] vb fun e w'=>e = .returned (.tuple #[.string (st (rdV s (fr:Int))),.int .i64 150])/\w'=vb):=by
   have:=RD.out vb (fr:Int) I0.out.2.1;rw[zry hd] at this;exact this
  obtain⟨X,hX⟩:∃X,st (rdV s (fr:Int))=X:=⟨_,rfl⟩;rw[hX] at R1;have k0:=I0.out.1.c 0 _ rfl;have k1:=I0.out.1.c 1 _ rfl;have k2:=I0.out.1.c 2 _ rfl;clear hX RD WS SS H64 P64;go_enter Tryz.func220, Tryz.ntmps220;go_wp2;go_loopw [10] (fun i wr=>i = .int .i64 0/\wr=vb) (fun _ _=>0)
  case atStart=>exact⟨rfl,rfl⟩
  case round =>
   obtain⟨rfl,rfl⟩:=hrel;go_wp2_with fail;refine cM R1.out ?_;rintro e w1 ⟨rfl,rfl⟩;have FF:Hid (Below v.heap.size v w1):=I0.out.2.1;clear I0;go_wp2;go_ret2;exact⟨by rw[HR.out];rfl,FF.out⟩
 ·have hd':s.down=false:=by simpa using hd
  have HR:Hid (rdA s fr mn = .tuple #[.string (st (hb s fr mn)),.int .i64 0]):=if_neg hd;have R1:Hid (∀(W:Wo) (k:Nat),k < mn->Below v.heap.size v W->Cl 289 #[.pointer (some ⟨p,0,none⟩),.int .i64 ((fr:Int)+(k:Int))] W fun e w'=>e = .returned (.tuple #[.string (st (s.sh (fr+k))),.int .i64 0])/\w'=W):=fun W k hk hb=>by
   have:=RD.out W ((fr+k:Nat):Int) hb;rw[zl2 hd' (by omega),zpx hd' (by omega),show ((fr+k:Nat):Int)=(fr:Int)+(k:Int) by omega] at this;exact this
  have k2:=I0.out.1.c 2 _ rfl;clear RD hd hd';go_enter Tryz.func220, Tryz.ntmps220;go_wp2;clear k2 hva hvb hsz;go_loopw [10] (fun i wr=>∃k:Nat,k<=mn/\i = .int .i64 (k:Int)/\Hid (Blk wr v.heap.size [.pointer (some ⟨p,0,none⟩),.int .i64 (fr:Int),.int .i64 (mn:Int)]/\Below v.heap.size v wr/\Lib.IsBuilder 348 5 (v.heap.size+1) (v.heap.size+1) (Lib.byteCells (hb s fr k)) wr/\v.heap.size+2<=wr.heap.size)) (fun i _=>mn - (intOf i).toNat)
  case atStart=>exact⟨0,Nat.zero_le _,rfl,I0.out.1,I0.out.2.1,I0.out.2.2,by rw[HSZ.out];exact nL _⟩
  case round =>
   obtain⟨k,hk,rfl,I⟩:=hrel;clear I0 HSZ;by_cases hlt:k < mn
   ·have g1:(k:Int) < (mn:Int):=by omega
    have k0:=I.out.1.c 0 _ rfl;have k1:=I.out.1.c 1 _ rfl;have y1:IntKind.i64.wrap ((fr:Int)+(k:Int))=(fr:Int)+(k:Int):=by rw[IntKind.wrap_i64];omega
    have HE:Hid (hb s fr (k+1)=hb s fr k++s.sh (fr+k)):=zcp s fr k;have R2:Hid _:=R1.out wr k hlt I.out.2.1;have W2:Hid _:=WS.out (hb s fr k) (s.sh (fr+k)) wr I.out.2.2.1 (by rw[H64.out,P64.out];omega) (by have:=I.out.2.2.2;omega);obtain⟨X,hX⟩:∃X,st (s.sh (fr+k))=X:=⟨_,rfl⟩;rw[hX] at R2 W2;clear hX;go_wp2_with fail;refine cM R2.out ?_;rintro e w1 ⟨rfl,rfl⟩;go_wp2_with fail;refine cM W2.out ?_;rintro e w2 ⟨rfl,b1,b2⟩;have J:Hid (Blk w2 v.heap.size [.pointer (some ⟨p,0,none⟩),.int .i64 (fr:Int),.int .i64 (mn:Int)]/\Below v.heap.size v w2/\Lib.IsBuilder 348 5 (v.heap.size+1) (v.heap.size+1) (Lib.byteCells (hb s fr (k+1))) w2/\v.heap.size+2<=w2.heap.size):=⟨I.out.1.below b2 (by omega),I.out.2.1.trans (b2.mono (by omega)),by rw[HE.out];exact b1,by have:=b2.size;have:=I.out.2.2.2;omega⟩;clear b1 b2 I;go_wp2;go_roundw
    case rel=>exact⟨k+1,by omega,rfl,J.out⟩
    case measure=>simp[intOf];omega
   ·obtain rfl:k=mn:=by omega
    have S2:Hid _:=SS.out (hb s fr k) wr I.out.2.2.1 (by have:=I.out.2.2.2;omega);go_wp2_with fail;refine cM S2.out ?_;rintro e w2 ⟨rfl,b2⟩;have FF:Hid (Below v.heap.size v w2):=I.out.2.1.trans (b2.mono (by omega));clear b2;go_wp2;go_ret2;exact⟨by rw[HR.out];rfl,FF.out⟩
def scs (l:List Bs):List Value:=l.map fun t=>sv t
theorem zfd (l m:List Bs):scs (l++m)=scs l++scs m:=List.map_append ..
theorem ziH (l:List Bs):∀u∈scs l,u.oneCell'=true:=fun u h=>by
 obtain⟨x,-,rfl⟩:=List.mem_map.1 h;rfl
abbrev OwnsS (w:Wo) (v:Value) (l:List Bs):Prop:=w.ownsRow 0 9 1 v l.length (scs l)
theorem znK:(Tryz.prog.info? 9).map (fun i=>(i.zero,i.size,i.bytes))=some (some (.string ⟨#[]⟩),1,16):=by kernel_rfl
theorem zan (w:Wo):OwnsS w (.slice none 0 0) []:=World.ownsRow_nil _ _ _ _
theorem owns_sliceS {w:Wo} {v:Value} {l:List Bs} (h:OwnsS w v l):∃a n c,v = .slice a n c:=by
 rcases h.2 with ⟨rfl,-⟩|⟨g,cap,cur,rfl,-⟩
 ·exact⟨_,_,_,rfl⟩
 ·exact⟨_,_,_,rfl⟩
theorem app_str (w:Wo) (ty:TypeId) (v:Value) (l:List Bs) (h:OwnsS w v l) (hl:l.length<=1000000) (t:Bs) (b:Nat) (c0:w.cell? ⟨b,0,none⟩=some (sv t)) :
  ∃v' w',(Builtin.append_ #[25, 25] ty #[v,.slice (some ⟨b,0,none⟩) 1 1]).run Tryz.prog w = .ok v' w'/\OwnsS w' v' (l++[t])/\w.grownBy w' v.ownBlock/\(v'.ownBlock=v.ownBlock\/v'.ownBlock=some w.heap.size):=by
 obtain⟨i0,hi,hz0,hz1,hz2⟩:=info_parts znK;obtain⟨v',w',r1,r2,r3,-,r5⟩:=run_append_own_at (P:=Tryz.prog) w 0 25 ty 9 i0 _ 1 16 Tryz.underlying25 hi hz0 hz1 hz2 rfl (by decide) v l.length (scs l) h ⟨b,0,none⟩ 1 1 [sv t] rfl (fun j u hu=>by
   have q:Addr.add ⟨b,0,none⟩ j=⟨b,j,none⟩:=by simp[Addr.add];intro h;exact h.symm
   rw[q]
   match j,hu with
   | 0,hu=>simp at hu;subst hu;exact c0
   | j+1,hu=>simp at hu) (ziH [t]) (by unfold maxLen;omega) (by omega) (Nat.zero_le _)
 refine⟨v',w',r1,?_,r3,r5⟩;unfold OwnsS;rw[zfd,List.length_append];exact r2
abbrev hc (p fr mn g:Nat) (v:Value) (tk:Nat) (m:Bs) (more:List Value):List Value:=[.pointer (some ⟨p,0,none⟩),.int .i64 (fr:Int),.int .i64 (mn:Int),.int .i64 (g:Int),v,.int .i64 (tk:Int),sv m]++more
structure Hf (w:Wo) (q p fr mn g:Nat) (v:Value) (ts:List Bs) (tk:Nat) (m:Bs) (more:List Value):Prop where
 bk:Blk w q (hc p fr mn g v tk m more)
 row:OwnsS w v ts
 qv:v.ownBlock≠some q
def HFt (q:Nat) (v:Value) (g:Nat):Prop:=g=q\/v.ownBlock=some g
section
variable {w:Wo} {q p fr mn g:Nat} {v:Value} {ts:List Bs} {tk:Nat} {m:Bs} {more:List Value}
theorem Hf.lt (h:Hf w q p fr mn g v ts tk m more) {x:Nat} (hx:HFt q v x):x < w.heap.size:=by
 rcases hx with rfl|e
 ·exact h.bk.lt
 ·exact (h.row.lt x e).2
theorem Hf.same (h:Hf w q p fr mn g v ts tk m more) {w':Wo} (hs:∀x,HFt q v x->w'.heap[x]?=w.heap[x]?):Hf w' q p fr mn g v ts tk m more :=
 ⟨h.bk.same (hs q (.inl rfl)),ownsRow_same h.row (fun x e=>hs x (.inr e)),h.qv⟩
theorem Hf.later (h:Hf w q p fr mn g v ts tk m more) {w':Wo} (hb:Bw w w'):Hf w' q p fr mn g v ts tk m more:=h.same fun x hx=>hb.block x (h.lt hx)
theorem Hf.bf (h:Hf w q p fr mn g v ts tk m more) {F:Nat->Prop} {w':Wo} (hb:Bf F w w') (hF:∀x,HFt q v x->¬F x):Hf w' q p fr mn g v ts tk m more:=h.same fun x hx=>hb.block x (h.lt hx) (hF x hx)
theorem Hf.set (h:Hf w q p fr mn g v ts tk m more) (i:Nat) (u:Value) (hi:i < (hc p fr mn g v tk m more).length):Blk (w.setCell ⟨q,i,none⟩ u) q ((hc p fr mn g v tk m more).set i u)/\OwnsS (w.setCell ⟨q,i,none⟩ u) v ts :=
 ⟨h.bk.set i hi u,ownsRow_same h.row (fun x e=>Below.heap_setCell w ⟨q,i,none⟩ u x (fun c=>h.qv (by rw[e,c])))⟩
theorem Hf.setTk (h:Hf w q p fr mn g v ts tk m more) (k:Nat):Hf (w.setCell ⟨q,5,none⟩ (.int .i64 (k:Int))) q p fr mn g v ts k m more:=by
 have:=h.set 5 (.int .i64 (k:Int)) (by simp);exact⟨this.1,this.2,h.qv⟩
theorem Hf.setMk (h:Hf w q p fr mn g v ts tk m more) (k:Bs):Hf (w.setCell ⟨q,6,none⟩ (sv k)) q p fr mn g v ts tk k more:=by
 have:=h.set 6 (sv k) (by simp);exact⟨this.1,this.2,h.qv⟩
end
theorem bf_set {F:Nat->Prop} {w w':Wo} (h:Bf F w w') {q i:Nat} {u:Value} (hq:F q):Bf F w (w'.setCell ⟨q,i,none⟩ u):=h.trans (Nx.refl _ _) (Bf.set F w' q i u hq)
theorem zev (q p fr mn g:Nat) (v:Value) (ts:List Bs) (tk:Nat) (m:Bs) (more:List Value) (w:Wo) (hk:Hid (Kh w)) (h:Hid (Hf w q p fr mn g v ts tk m more)) :
  Cl 286 #[.pointer (some ⟨q,0,none⟩)] w fun e w'=>e = .returned (.tuple #[])/\Hf w' q p fr mn g v ts 1 (hm g) more/\Bf (fun x=>x=q) w w':=by
 have HM:Hid _:=ziE g w hk;have k3:=h.out.bk.c 3 _ rfl;have FI:Hid (∀w1,Bw w w1->Hf ((w1.setCell ⟨q,5,none⟩ (.int .i64 ((1:Nat):Int))).setCell ⟨q,6,none⟩ (sv (hm g))) q p fr mn g v ts 1 (hm g) more/\Bf (fun x=>x=q) w ((w1.setCell ⟨q,5,none⟩ (.int .i64 ((1:Nat):Int))).setCell ⟨q,6,none⟩ (sv (hm g)))):=fun w1 hb =>
  ⟨((h.out.later hb).setTk 1).setMk (hm g),bf_set (F:=fun x=>x=q) (bf_set (F:=fun x=>x=q) (Bf.of hb) rfl) rfl⟩
 have CS:Hid (∀w1,Bw w w1->w1.cell? ⟨q,5,none⟩=some (.int .i64 (tk:Int))/\w1.cell? ⟨q,6,none⟩=some (sv m)/\∀o,w1.frozen? ⟨q,o,none⟩=false):=fun w1 hb=>⟨(h.out.later hb).bk.c 5 _ rfl,(h.out.later hb).bk.c 6 _ rfl,(h.out.later hb).bk.f⟩
 unfold sv at *;obtain⟨M,hM⟩:∃M,st (hm g)=M:=⟨_,rfl⟩;rw[hM] at HM FI;clear hM h;go_enter Tryz.func286, Tryz.ntmps286;go_wp2_with fail;refine cM HM.out ?_;rintro e w1 ⟨rfl,hb⟩;obtain⟨k5,k6,kf⟩:=CS.out w1 hb;have FF:Hid _:=FI.out w1 hb;clear hb FI CS k3;go_wp2;go_end0;exact⟨rfl,FF.out⟩
end Go.Proofs.YtjcppbhgjchjaaaGreatDoor.Sto
namespace Go.Proofs.YtjcppbhgjchjaaaGreatDoor.Sto
open Go.RowKit Go.Proofs.Fd Go.Proofs.Dk
section
variable {w:Wo} {d n:Nat} {dn:Bool} {fu:Nat} {f:Nat->Bs} {l:List Wt} {sg sc:Nat} {v:Value}
end
end Go.Proofs.YtjcppbhgjchjaaaGreatDoor.Sto
namespace Go.Proofs.YtjcppbhgjchjaaaGreatDoor.Sto
open Go.RowKit Go.Proofs.Fd Go.Proofs.Dk Go.Proofs.Lg
theorem zk1 (s:St) (k:Int) (t:Bs):(wrS s k t).n=s.n:=by
 unfold wrS
 split
 ·rfl
 ·split
  ·rfl
  ·split <;> rfl
end Go.Proofs.YtjcppbhgjchjaaaGreatDoor.Sto
namespace Go.Proofs.YtjcppbhgjchjaaaGreatDoor.Sto
open Go.RowKit Go.Proofs.Fd Go.Proofs.Dk
end Go.Proofs.YtjcppbhgjchjaaaGreatDoor.Sto
namespace Go.Proofs.YtjcppbhgjchjaaaGreatDoor.Sto
open Go.RowKit Go.Proofs.Fd Go.Proofs.Dk Go.Proofs.Lg
section
variable {w:Wo} {q d h g:Nat} {v:Value} {ts:List Bs} {tk:Nat} {m:Bs}
end
def FQ (G:Nat->Prop) (q:Nat) (v:Value) (x:Nat):Prop:=G x\/HFt q v x
section
variable {w:Wo} {d:Nat} {G:Nat->Prop} {s:St} {q h g:Nat} {v:Value} {ts:List Bs} {tk:Nat} {m:Bs}
end
section
variable {w:Wo} {q p fr mn g:Nat} {v:Value} {ts:List Bs} {tk:Nat} {m:Bs} {more:List Value}
theorem Hf.grown (h:Hf w q p fr mn g v ts tk m more) {w':Wo} {v':Value} {us:List Bs} (k:w.grownBy w' v.ownBlock) (o:OwnsS w' v' us) (hv:v'.ownBlock=v.ownBlock\/v'.ownBlock=some w.heap.size) :
  Hf (w'.setCell ⟨q,4,none⟩ v') q p fr mn g v' us tk m more:=by
 have hq:w'.heap[q]?=w.heap[q]?:=k.block q h.bk.lt (fun e=>h.qv e.symm);have hn:v'.ownBlock≠some q:=fun c=>by
  rcases hv with e|e
  ·exact h.qv (e.symm.trans c)
  ·rw[e] at c
   injection c with c
   have:=h.bk.lt;omega
 have b1:=(h.bk.same hq).set 4 (by simp) v';exact⟨b1,ownsRow_same o (fun x e=>Below.heap_setCell w' ⟨q,4,none⟩ v' x (fun c=>hn (by rw[e,c]))),hn⟩
end
theorem Hf.ft {w w':Wo} {q:Nat} {v v':Value} (hv:v'.ownBlock=v.ownBlock\/v'.ownBlock=some w'.heap.size) (hs:w.heap.size<=w'.heap.size):Nx w (HFt q v) (HFt q v'):=fun x hx=>by
 rcases hx with rfl|e
 ·exact .inl (.inl rfl)
 ·rcases hv with h|h
  ·exact .inl (.inr (h.symm.trans e))
  ·rw[h] at e
   injection e with e
   exact .inr (by omega)
structure Hs1 (w:Wo) (q p fr mn g:Nat) (v:Value) (ts:List Bs) (tk:Nat) (m:Bs) (more:List Value) (B:Nat) (M T:Ba) (W:Wo) (x:Value):Prop where
 hf:Hf W q p fr mn g x ts tk m more
 bk:Blk W B [.string M,.string T]
 bf:Bf (HFt q v) w W
 nx:Nx w (HFt q v) (HFt q x)
def oph0:Oper:={ dst:=some 4,op := .move (.tmp 0),type := 296, pos := "half.go:126", after:=#[],guard:=none }
def oph1:Oper:={ dst:=some 5,op := .move (.tmp 0),type := 296, pos := "half.go:126", after:=#[],guard:=none }
def oph2:Oper:={ dst:=some 6,op := .nilCheck (.tmp 5),type:=0,pos := "half.go:126", after:=#[eD 1],guard:=none }
def oph3:Oper:={ dst:=some 7,op := .fieldAddr 237 (.tmp 6) 2,type:=0,pos := "half.go:126", after:=#[eD 2],guard:=none }
def oph4:Oper:={ dst:=some 8,op := .load 25 (.tmp 7),type := 25, pos := "half.go:126", after:=#[eD 3],guard:=none }
def oph5:Oper:={ dst:=some 9,op := .fieldAddr 337 (.tmp 3) 1,type:=0,pos := "half.go:126", after:=#[],guard:=none }
def zrE:Oper:={ dst:=some 10,op := .load 9 (.tmp 9),type := 9, pos := "half.go:126", after:=#[eD 5],guard:=none }
def zqf:Oper:={ dst:=some 11,op := .call { callee:=Go.Callee.value (.func 46),args:=#[Go.Operand.tmp 10],argTypes:=#[9] },type := 9, pos := "half.go:126", after:=#[eD 6],guard:=none }
def zop:Oper:={ dst:=some 12,op := .buildSlice 25 1 #[(0,Go.Operand.tmp 11)],type := 25, pos := "half.go:126", after:=#[eD 7],guard:=none }
def zoq:Oper:={ dst:=some 13,op := .call { callee:=Go.Callee.builtin Go.Builtin.append,args:=#[Go.Operand.tmp 8,Go.Operand.tmp 12],argTypes:=#[25, 25] },type := 25, pos := "half.go:126", after:=#[eD 4,eD 8,eC 7],guard:=none }
def zdD:Oper:={ dst:=some 14,op := .nilCheck (.tmp 4),type:=0,pos := "half.go:126", after:=#[eD 0,eP 0,eP 1,eP 2,eP 3,eP 4,eP 5,eP 6,eP 7,eP 8,eP 9],guard:=none }
def zdE:Oper:={ dst:=some 15,op := .fieldAddr 237 (.tmp 14) 2,type:=0,pos := "half.go:126", after:=#[eD 10,eP 0,eP 1,eP 2,eP 3,eP 4,eP 5,eP 6,eP 7,eP 8,eP 9],guard:=none }
def zgW:Oper:={ dst:=none,op := .store 25 (.tmp 15) (.tmp 13),type:=0,pos := "half.go:126", after:=#[eD 11,eD 9,eC 9,eP 0,eP 1,eP 2,eP 3,eP 4,eP 5,eP 6,eP 7,eP 8,eP 9],guard:=none }
theorem zge (q p fr mn g:Nat) (v:Value) (ts:List Bs) (tk:Nat) (m:Bs) (more:List Value) (m' t:Bs) (ht:t.length<=2000) (hts:ts.length<=100000) (htk:tk<=100000) (w:Wo) (h:Hid (Hf w q p fr mn g v ts tk m more)) :
  Cl 281 #[.pointer (some ⟨q,0,none⟩),rv m' t] w fun e w'=>e = .returned (.tuple #[])/\∃v',Hf w' q p fr mn g v' (ts++[t]) (tk+sn t) m' more/\Bf (HFt q v) w w'/\Nx w (HFt q v) (HFt q v'):=by
 obtain⟨va,vn,vc,rfl⟩:=owns_sliceS h.out.row;have CL:Hid (∀w,Cl 46 #[.string (st t)] w fun e w'=>e = .returned (.string (st t))/\Below w.heap.size w w'):=fun w=>zbU (st t) (by rw[zaf];omega) w
 have SO:Hid (∀w,Cl 204 #[.string (st t)] w fun e w'=>e = .returned (.int .i64 (sn t:Int))/\w'=w):=fun w=>zaT t (by omega) w
 have hsn:sn t<=100:=by unfold sn;omega
 obtain⟨n,hn⟩:∃n,sn t=n:=⟨_,rfl⟩;rw[hn] at SO hsn ⊢;clear hn;have HT:Hid (.string (st t)=sv t):=(rfl:Value.string (st t)=sv t);have HM:Hid (.string (st m')=sv m'):=(rfl:Value.string (st m')=sv m');unfold rv;unfold sv;obtain⟨T,hT⟩:∃T,st t=T:=⟨_,rfl⟩;obtain⟨M,hM⟩:∃M,st m'=M:=⟨_,rfl⟩;rw[hT] at CL SO HT ⊢;rw[hM] at HM ⊢;clear hT hM ht;have hB:Hid (w.heap.size≠q):=fun e=>by have:=h.out.bk.lt;omega
 have HNB:Hid ((Value.slice va vn vc).ownBlock≠some w.heap.size):=fun e=>Nat.lt_irrefl _ (h.out.row.lt _ e).2
 have I0:Hid (Hs1 w q p fr mn g (.slice va vn vc) ts tk m more w.heap.size M T (w.alloc (.cells #[.string M,.string T] 337)).drew (.slice va vn vc)) :=
  ⟨h.out.later (nb _ _).drew,(Blk.new w [.string M,.string T] 337 (by simp)).drew,Bf.of (nb _ _).drew,Nx.refl _ _⟩
 go_enter Tryz.func281, Tryz.ntmps281;go_wp2_with fail;obtain⟨W,hW⟩:∃W,w.alloc (.cells #[.string M,.string T] 337)=W:=⟨_,rfl⟩;have b1:W.cell? ⟨w.heap.size,1,none⟩=some (.string T):=by rw[<-hW,World.cell?_alloc_new];rfl
 rw[hW] at I0 ⊢;clear hW;obtain⟨B,hBB⟩:∃B,w.heap.size=B:=⟨_,rfl⟩;rw[hBB] at I0 hB b1 HNB ⊢;have HBB:Hid (w.heap.size=B):=hBB;clear hBB h;have CK:Hid (∀V,Below W.drew.heap.size W.drew V->V.cell? ⟨q,4,none⟩=some (.slice va vn vc)):=fun V hb=>(I0.out.hf.later hb).bk.c 4 _ rfl
 have AA:Hid (∀V,Below W.drew.heap.size W.drew V->∃xa xn xc w',(Builtin.append_ #[25, 25] 25 #[.slice va vn vc,.slice (some ⟨V.heap.size,0,none⟩) 1 1]).run Tryz.prog (V.alloc (.cells #[.string T] 9)) = .ok (.slice xa xn xc) w'/\Hid (w'.cell? ⟨q,4,none⟩=some (.slice va vn vc)/\w'.frozen? ⟨q,4,none⟩=false/\w'.cell? ⟨B,1,none⟩=some (.string T)/\Hs1 w q p fr mn g (.slice va vn vc) (ts++[t]) tk m more B M T (w'.setCell ⟨q,4,none⟩ (.slice xa xn xc)) (.slice xa xn xc))):=by
  intro V hb;have hb2:=chain hb (nb V (.cells #[.string T] 9));have k1:=I0.out.hf.later hb2;have k2:=I0.out.bk.later hb2;obtain⟨v',w',r1,r2,r3,r4⟩:=app_str (V.alloc (.cells #[.string T] 9)) 25 (.slice va vn vc) ts k1.row (by omega) t V.heap.size (by rw[<-HT.out,World.cell?_alloc_new];rfl);obtain⟨xa,xn,xc,rfl⟩:=owns_sliceS r2;have hq:w'.heap[q]?=(V.alloc (.cells #[.string T] 9)).heap[q]?:=r3.block q k1.bk.lt (fun e=>k1.qv e.symm);have hnB:some B≠(Value.slice va vn vc).ownBlock:=fun e=>HNB.out e.symm
  have hBB:w'.heap[B]?=(V.alloc (.cells #[.string T] 9)).heap[B]?:=r3.block B k2.lt hnB;have bW:Bf (HFt q (.slice va vn vc)) w (V.alloc (.cells #[.string T] 9)):=I0.out.bf.later hb2;refine⟨xa,xn,xc,w',r1,?_,?_,?_,⟨k1.grown r3 r2 r4,?_,?_,?_⟩⟩
  ·exact (World.cell?_of_block (a:=⟨q,4,none⟩) hq).trans (k1.bk.c 4 _ rfl)
  ·exact (World.frozen?_of_block (a:=⟨q,4,none⟩) hq).trans (k1.bk.f 4)
  ·exact (World.cell?_of_block (a:=⟨B,1,none⟩) hBB).trans (k2.c 1 _ rfl)
  ·exact (k2.same hBB).same (Below.heap_setCell w' ⟨q,4,none⟩ _ B hB.out)
  ·exact bf_set (bW.trans (Nx.refl _ _) (Bf.grown (F:=HFt q (.slice va vn vc)) r3 (fun x e => .inl (.inr e)))) (.inl rfl)
  ·exact Hf.ft r4 bW.size
 have TL:Hid (∀W x,Hs1 w q p fr mn g (.slice va vn vc) (ts++[t]) tk m more B M T W x->Hf ((W.drew.setCell ⟨q,5,none⟩ (.int .i64 ((tk+n:Nat):Int))).setCell ⟨q,6,none⟩ (.string M)) q p fr mn g x (ts++[t]) (tk+n) m' more/\Bf (HFt q (.slice va vn vc)) w ((W.drew.setCell ⟨q,5,none⟩ (.int .i64 ((tk+n:Nat):Int))).setCell ⟨q,6,none⟩ (.string M))/\Nx w (HFt q (.slice va vn vc)) (HFt q x)):=fun W x k=>by
  rw[HM.out];exact⟨((k.hf.later (bQ _ _).drew).setTk _).setMk m',bf_set (bf_set (k.bf.later (bQ _ _).drew) (.inl rfl)) (.inl rfl),k.nx⟩
 have e1:((tk+n:Nat):Int)=(tk:Int)+(n:Int):=by omega
 rw[e1] at TL;have y1:IntKind.i64.wrap ((tk:Int)+(n:Int))=(tk:Int)+(n:Int):=by rw[IntKind.wrap_i64];omega
 clear e1 HT HM;refine wp_region_noPanic ?_;refine wp_region_held_drew (S:=fun w'=>w'.cell? ⟨B,1,none⟩=some (.string T)) (by kernel_rfl) (b1) (fun hHeld => ?_);obtain⟨Z,hZ⟩:∃Z,W.drew=Z:=⟨_,rfl⟩;rw[hZ] at hHeld CK AA I0 ⊢;clear hZ b1 I0;refine wT 0 oph0 ?_ ?_ ?_;rotate_left
 ·intro w' hSw;clear hSw;unfold oph0;first|(go_simp;done)|(go_simp;with_reducible rfl)
 simp only[oph0,Act.put,wA,wB,wC];refine wT 1 oph1 ?_ ?_ ?_;rotate_left
 ·intro w' hSw;clear hSw;unfold oph1;first|(go_simp;done)|(go_simp;with_reducible rfl)
 simp only[oph1,Act.put,wA,wB,wC];refine wT 2 oph2 ?_ ?_ ?_;rotate_left
 ·intro w' hSw;clear hSw;unfold oph2;first|(go_simp;done)|(go_simp;with_reducible rfl)
 simp only[oph2,Act.put,wA,wB,wC];refine wT 3 oph3 ?_ ?_ ?_;rotate_left
 ·intro w' hSw;clear hSw;unfold oph3;first|(go_simp;done)|(go_simp;with_reducible rfl)
 simp only[oph3,Act.put,wA,wB,wC];refine wT 5 oph5 ?_ ?_ ?_;rotate_left
 ·intro w' hSw;clear hSw;unfold oph5;first|(go_simp;done)|(go_simp;with_reducible rfl)
 simp only[oph5,Act.put,wA,wB,wC];refine wT 6 zrE ?_ ?_ ?_;rotate_left
 ·intro w' hSw;have s1:=hSw;unfold zrE;first|(go_simp;done)|(go_simp;with_reducible rfl)
 simp only[zrE,Act.put,wA,wB,wC];refine wpAnyH_ready (rs:=[4,7]) (by kernel_rfl) (by simp) ?_;refine AllReadyH.cons (o:=oph4) rfl (fun KK hKK => ?_) (AllReadyH.cons (o:=zqf) rfl (fun KK hKK => ?_) AllReadyH.nil)
 ·have lc:=CK.out _ (bQ _ _)
  unfold oph4;go_simp;refine hKK.out _ _ hHeld (fun hHeldL => ?_);clear hKK KK lc;refine wpAnyH_ready (rs:=[7]) (by kernel_rfl) (by simp) ?_;refine AllReadyH.cons (o:=zqf) rfl (fun KK hKK => ?_) AllReadyH.nil;unfold zqf;go_simp;refine cM (CL.out _) ?_;rintro e w1 ⟨rfl,hb1⟩;refine hKK.out _ _ (cell_later hb1 hHeldL) (fun hHeldC => ?_);clear hKK KK;refine wpAnyH_ready (rs:=[8]) (by kernel_rfl) (by simp) ?_;refine AllReadyH.cons (o:=zop) rfl (fun KK hKK => ?_) AllReadyH.nil;unfold zop;go_simp;refine hKK.out _ _ (zab hHeldC) (fun hHeldB => ?_);clear hKK KK;refine wpAnyH_ready (rs:=[9]) (by kernel_rfl) (by simp) ?_;refine AllReadyH.cons (o:=zoq) rfl (fun KK hKK => ?_) AllReadyH.nil;obtain⟨xa,xn,xc,w',hr,AO⟩:=AA.out w1 hb1;rw[if_pos (by kernel_rfl)];refine Go.Lib.wp_append_run _ _ _ _ _ rfl _ _ rfl rfl _ _ hr ?_;refine hKK.out _ _ AO.out.2.2.1 (fun hHeldA => ?_);clear hKK KK hr;simp only[zoq,Act.put,wA,wB,wC];refine wT 10 zdD ?_ ?_ ?_;rotate_left
  ·intro w' hSw;clear hSw;unfold zdD;first|(go_simp;done)|(go_simp;with_reducible rfl)
  simp only[zdD,Act.put,wA,wB,wC];refine wT 11 zdE ?_ ?_ ?_;rotate_left
  ·intro w' hSw;clear hSw;unfold zdE;first|(go_simp;done)|(go_simp;with_reducible rfl)
  simp only[zdE,Act.put,wA,wB,wC];refine wpAnyH_ready (rs:=[12]) (by kernel_rfl) (by simp) ?_;refine AllReadyH.cons (o:=zgW) rfl (fun KK hKK => ?_) AllReadyH.nil;have sc:=AO.out.1;have sf:=AO.out.2.1;unfold zgW;go_simp;refine hKK.out _ _ (zaa hHeldA (Ne.symm hB.out)) (fun hHeldS => ?_);clear hKK KK sc sf;refine wpAnyH_done (by kernel_rfl) ?_ _;refine NoPanic.normal ?_;have R1:Hid _:=AO.out.2.2.2;clear AO AA CK CL;obtain⟨V,hV⟩:∃V,w'.setCell ⟨q,4,none⟩ (.slice xa xn xc)=V:=⟨_,rfl⟩;rw[hV] at R1 ⊢;have k5:=R1.out.hf.bk.c 5 _ rfl;have k6:=R1.out.hf.bk.c 6 _ rfl;have kf:=R1.out.hf.bk.f;have r0:=R1.out.bk.c 0 _ rfl;have r1:=R1.out.bk.c 1 _ rfl;have hne:=hB.out;have FF:Hid _:=TL.out V _ R1.out;clear R1 TL hV;go_wp2_with fail;go_region_with (first|(go_at_call 204;refine cM (SO.out _) ?_;rintro e w3 ⟨rfl,rfl⟩))
  all_goals
   go_wp2;go_end0;exact⟨rfl,_,FF.out⟩
 ·unfold zqf
  go_simp;refine cM (CL.out _) ?_;rintro e w1 ⟨rfl,hb1⟩;refine hKK.out _ _ (cell_later hb1 hHeld) (fun hHeldC => ?_);clear hKK KK;refine wpAnyH_ready (rs:=[4,8]) (by kernel_rfl) (by simp) ?_;refine AllReadyH.cons (o:=oph4) rfl (fun KK hKK => ?_) (AllReadyH.cons (o:=zop) rfl (fun KK hKK => ?_) AllReadyH.nil)
  ·have lc:=CK.out w1 hb1
   unfold oph4;go_simp;refine hKK.out _ _ hHeldC (fun hHeldL => ?_);clear hKK KK lc;refine wpAnyH_ready (rs:=[8]) (by kernel_rfl) (by simp) ?_;refine AllReadyH.cons (o:=zop) rfl (fun KK hKK => ?_) AllReadyH.nil;unfold zop;go_simp;refine hKK.out _ _ (zab hHeldL) (fun hHeldB => ?_);clear hKK KK;refine wpAnyH_ready (rs:=[9]) (by kernel_rfl) (by simp) ?_;refine AllReadyH.cons (o:=zoq) rfl (fun KK hKK => ?_) AllReadyH.nil;obtain⟨xa,xn,xc,w',hr,AO⟩:=AA.out w1 hb1;rw[if_pos (by kernel_rfl)];refine Go.Lib.wp_append_run _ _ _ _ _ rfl _ _ rfl rfl _ _ hr ?_;refine hKK.out _ _ AO.out.2.2.1 (fun hHeldA => ?_);clear hKK KK hr;simp only[zoq,Act.put,wA,wB,wC];refine wT 10 zdD ?_ ?_ ?_;rotate_left
   ·intro w' hSw;clear hSw;unfold zdD;first|(go_simp;done)|(go_simp;with_reducible rfl)
   simp only[zdD,Act.put,wA,wB,wC];refine wT 11 zdE ?_ ?_ ?_;rotate_left
   ·intro w' hSw;clear hSw;unfold zdE;first|(go_simp;done)|(go_simp;with_reducible rfl)
   simp only[zdE,Act.put,wA,wB,wC];refine wpAnyH_ready (rs:=[12]) (by kernel_rfl) (by simp) ?_;refine AllReadyH.cons (o:=zgW) rfl (fun KK hKK => ?_) AllReadyH.nil;have sc:=AO.out.1;have sf:=AO.out.2.1;unfold zgW;go_simp;refine hKK.out _ _ (zaa hHeldA (Ne.symm hB.out)) (fun hHeldS => ?_);clear hKK KK sc sf;refine wpAnyH_done (by kernel_rfl) ?_ _;refine NoPanic.normal ?_;have R1:Hid _:=AO.out.2.2.2;clear AO AA CK CL;obtain⟨V,hV⟩:∃V,w'.setCell ⟨q,4,none⟩ (.slice xa xn xc)=V:=⟨_,rfl⟩;rw[hV] at R1 ⊢;have k5:=R1.out.hf.bk.c 5 _ rfl;have k6:=R1.out.hf.bk.c 6 _ rfl;have kf:=R1.out.hf.bk.f;have r0:=R1.out.bk.c 0 _ rfl;have r1:=R1.out.bk.c 1 _ rfl;have hne:=hB.out;have FF:Hid _:=TL.out V _ R1.out;clear R1 TL hV;go_wp2_with fail;go_region_with (first|(go_at_call 204;refine cM (SO.out _) ?_;rintro e w3 ⟨rfl,rfl⟩))
   all_goals
    go_wp2;go_end0;exact⟨rfl,_,FF.out⟩
  ·unfold zop
   go_simp;refine hKK.out _ _ (zab hHeldC) (fun hHeldB => ?_);clear hKK KK;refine wpAnyH_ready (rs:=[4]) (by kernel_rfl) (by simp) ?_;refine AllReadyH.cons (o:=oph4) rfl (fun KK hKK => ?_) AllReadyH.nil;have lc:=CK.out _ (chain hb1 (nb w1 (.cells #[.string T] 9)));unfold oph4;go_simp;refine hKK.out _ _ hHeldB (fun hHeldL => ?_);clear hKK KK lc;refine wpAnyH_ready (rs:=[9]) (by kernel_rfl) (by simp) ?_;refine AllReadyH.cons (o:=zoq) rfl (fun KK hKK => ?_) AllReadyH.nil;obtain⟨xa,xn,xc,w',hr,AO⟩:=AA.out w1 hb1;rw[if_pos (by kernel_rfl)];refine Go.Lib.wp_append_run _ _ _ _ _ rfl _ _ rfl rfl _ _ hr ?_;refine hKK.out _ _ AO.out.2.2.1 (fun hHeldA => ?_);clear hKK KK hr;simp only[zoq,Act.put,wA,wB,wC];refine wT 10 zdD ?_ ?_ ?_;rotate_left
   ·intro w' hSw;clear hSw;unfold zdD;first|(go_simp;done)|(go_simp;with_reducible rfl)
   simp only[zdD,Act.put,wA,wB,wC];refine wT 11 zdE ?_ ?_ ?_;rotate_left
   ·intro w' hSw;clear hSw;unfold zdE;first|(go_simp;done)|(go_simp;with_reducible rfl)
   simp only[zdE,Act.put,wA,wB,wC];refine wpAnyH_ready (rs:=[12]) (by kernel_rfl) (by simp) ?_;refine AllReadyH.cons (o:=zgW) rfl (fun KK hKK => ?_) AllReadyH.nil;have sc:=AO.out.1;have sf:=AO.out.2.1;unfold zgW;go_simp;refine hKK.out _ _ (zaa hHeldA (Ne.symm hB.out)) (fun hHeldS => ?_);clear hKK KK sc sf;refine wpAnyH_done (by kernel_rfl) ?_ _;refine NoPanic.normal ?_;have R1:Hid _:=AO.out.2.2.2;clear AO AA CK CL;obtain⟨V,hV⟩:∃V,w'.setCell ⟨q,4,none⟩ (.slice xa xn xc)=V:=⟨_,rfl⟩;rw[hV] at R1 ⊢;have k5:=R1.out.hf.bk.c 5 _ rfl;have k6:=R1.out.hf.bk.c 6 _ rfl;have kf:=R1.out.hf.bk.f;have r0:=R1.out.bk.c 0 _ rfl;have r1:=R1.out.bk.c 1 _ rfl;have hne:=hB.out;have FF:Hid _:=TL.out V _ R1.out;clear R1 TL hV;go_wp2_with fail;go_region_with (first|(go_at_call 204;refine cM (SO.out _) ?_;rintro e w3 ⟨rfl,rfl⟩))
   all_goals
    go_wp2;go_end0;exact⟨rfl,_,FF.out⟩
structure HD (w wr:Wo) (p:Nat) (F:Nat->Prop) (s:St) (q fr mn g:Nat) (v:Value) (ts:List Bs) (tk:Nat) (m:Bs) (more:List Value):Prop where
 dl:Dl w wr p F s
 hf:Hf wr q p fr mn g v ts tk m more
 ap:∀x,HFt q v x->¬F x/\w.heap.size<=x
def FH (F:Nat->Prop) (q:Nat) (v:Value) (x:Nat):Prop:=F x\/HFt q v x
section
variable {w wr:Wo} {p:Nat} {F:Nat->Prop} {s:St} {q fr mn g:Nat} {v:Value} {ts:List Bs} {tk:Nat} {m:Bs} {more:List Value}
theorem HD.later (h:HD w wr p F s q fr mn g v ts tk m more) {w':Wo} (hb:Bw wr w'):HD w w' p F s q fr mn g v ts tk m more:=⟨h.dl.later hb,h.hf.later hb,h.ap⟩
theorem HD.disk (h:HD w wr p F s q fr mn g v ts tk m more) {w':Wo} {F':Nat->Prop} {s':St} (k:Dl w w' p F' s') (hx:Nx wr F F') (hb:Bf F wr w'):HD w w' p F' s' q fr mn g v ts tk m more :=
 ⟨k,h.hf.bf hb (fun x hx=>(h.ap x hx).1),fun x hh=>⟨hx.apart (h.ap x hh).1 (h.hf.lt hh),(h.ap x hh).2⟩⟩
theorem HD.half (h:HD w wr p F s q fr mn g v ts tk m more) {w':Wo} {v':Value} {ts':List Bs} {tk' g' fr' mn':Nat} {m':Bs} {more':List Value} (k:Hf w' q p fr' mn' g' v' ts' tk' m' more') (hb:Bf (HFt q v) wr w') (hx:Nx wr (HFt q v) (HFt q v')):HD w w' p F s q fr' mn' g' v' ts' tk' m' more' :=
 ⟨⟨h.dl.at_.other hb (fun x hF hc=>(h.ap x hc).1 hF),h.dl.new,h.dl.below.trans (hb.below (fun x hc=>(h.ap x hc).2) h.dl.below.size)⟩,k,fun x hh=>by
  rcases hx x hh with e|e
  ·exact h.ap x e
  ·exact⟨fun c=>Nat.not_lt.2 e (h.dl.at_.lt c),Nat.le_trans h.dl.below.size e⟩⟩
theorem HD.kh (h:HD w wr p F s q fr mn g v ts tk m more) (hk:Kh w):Kh wr:=hk.later h.dl.below
end
theorem FH.left {F F':Nat->Prop} {q:Nat} {v:Value} {w:Wo} (h:Nx w F F'):Nx w (FH F q v) (FH F' q v):=fun x hx=>by
 rcases hx with e|e
 ·rcases h x e with e|e
  ·exact .inl (.inl e)
  ·exact .inr e
 ·exact .inl (.inr e)
theorem Bf.wide {F G:Nat->Prop} {w w':Wo} (h:Bf F w w') (hw:∀x,F x->G x):Bf G w w':=⟨h.os,h.tape,h.output,h.size,fun x hx hG=>h.block x hx (fun c=>hG (hw x c))⟩
def Nx2 (w:Wo) (F:Nat->Prop) (q:Nat) (v:Value) (F':Nat->Prop) (v':Value):Prop:=Nx w F F'/\Nx w (HFt q v) (HFt q v')
theorem Nx2.fh {w:Wo} {F F':Nat->Prop} {q:Nat} {v v':Value} (h:Nx2 w F q v F' v'):Nx w (FH F q v) (FH F' q v'):=fun x hx=>by
 rcases hx with e|e
 ·rcases h.1 x e with e|e
  ·exact .inl (.inl e)
  ·exact .inr e
 ·rcases h.2 x e with e|e
  ·exact .inl (.inr e)
  ·exact .inr e
theorem Nx2.refl (w:Wo) (F:Nat->Prop) (q:Nat) (v:Value):Nx2 w F q v F v:=⟨Nx.refl _ _,Nx.refl _ _⟩
theorem Nx2.trans {w w':Wo} {F F' F'':Nat->Prop} {q:Nat} {v v' v'':Value} (h:Nx2 w F q v F' v') (k:Nx2 w' F' q v' F'' v'') (hs:w.heap.size<=w'.heap.size):Nx2 w F q v F'' v'':=⟨h.1.trans k.1 hs,h.2.trans k.2 hs⟩
def AdP (w wr:Wo) (p:Nat) (F:Nat->Prop) (q fr mn g:Nat) (v:Value) (ts:List Bs) (tk:Nat) (m:Bs) (more:List Value) (t:Bs) (y:Int×St) (w':Wo):Prop :=
 ∃F' v',Nx2 wr F q v F' v'/\Bf (FH F q v) wr w'/\(y.1=0/\HD w w' p F' y.2 q fr mn g v' (ts++[t]) (tk+sn t) (rmk m t) more\/y.1≠0/\HD w w' p F' y.2 q fr mn g v' ts tk m more)
theorem zrF {wa wb:Wo} {q:Nat} {x0 x1 x2 x5:Value} {B:Nat} {y0 y1:Value} (hb:Bw wa wb) (h:wa.cell? ⟨q,0,none⟩=some x0/\wa.cell? ⟨q,1,none⟩=some x1/\wa.cell? ⟨q,2,none⟩=some x2/\wa.cell? ⟨q,5,none⟩=some x5/\wa.cell? ⟨B,0,none⟩=some y0/\wa.cell? ⟨B,1,none⟩=some y1) :
  wb.cell? ⟨q,0,none⟩=some x0/\wb.cell? ⟨q,1,none⟩=some x1/\wb.cell? ⟨q,2,none⟩=some x2/\wb.cell? ⟨q,5,none⟩=some x5/\wb.cell? ⟨B,0,none⟩=some y0/\wb.cell? ⟨B,1,none⟩=some y1 :=
 ⟨cell_later hb h.1,cell_later hb h.2.1,cell_later hb h.2.2.1,cell_later hb h.2.2.2.1,cell_later hb h.2.2.2.2.1,cell_later hb h.2.2.2.2.2⟩
theorem zpy {w wa wb:Wo} {p:Nat} {F:Nat->Prop} {s:St} {q:Nat} {x0 x1 x2 x5:Value} {B:Nat} {y0 y1:Value} (hq:¬F q) (hB:¬F B) (hd:Ds w wa p F s wb) (h:wa.cell? ⟨q,0,none⟩=some x0/\wa.cell? ⟨q,1,none⟩=some x1/\wa.cell? ⟨q,2,none⟩=some x2/\wa.cell? ⟨q,5,none⟩=some x5/\wa.cell? ⟨B,0,none⟩=some y0/\wa.cell? ⟨B,1,none⟩=some y1) :
  wb.cell? ⟨q,0,none⟩=some x0/\wb.cell? ⟨q,1,none⟩=some x1/\wb.cell? ⟨q,2,none⟩=some x2/\wb.cell? ⟨q,5,none⟩=some x5/\wb.cell? ⟨B,0,none⟩=some y0/\wb.cell? ⟨B,1,none⟩=some y1:=by
 obtain⟨F',-,-,hb⟩:=hd;exact⟨hb.cell h.1 hq,hb.cell h.2.1 hq,hb.cell h.2.2.1 hq,hb.cell h.2.2.2.1 hq,hb.cell h.2.2.2.2.1 hB,hb.cell h.2.2.2.2.2 hB⟩
theorem zgf (w va:Wo) (p:Nat) (F:Nat->Prop) (s:St) (q fr mn g:Nat) (v:Value) (ts:List Bs) (tk:Nat) (m:Bs) (more:List Value) (t:Bs) (hm:m.length=16) (ht:t.length<=2000) (hts:ts.length<=100000) (hz:fr+tk<=4000) (hl:s.l.length+100<=1000000) (hk:Hid (Kh w)) (h:Hid (HD w va p F s q fr mn g v ts tk m more)) :
  Cl 206 #[.pointer (some ⟨q,0,none⟩),sv t] va fun e w'=>e = .returned (.int .i64 (wrb s (fr+tk) (rcd m t)).1)/\AdP w va p F q fr mn g v ts tk m more t (wrb s (fr+tk) (rcd m t)) w':=by
 have NX:Hid (∀W,Kh W->Cl 279 #[.string (st m),.string (st t)] W fun e w'=>e = .returned (.agg #[.string (st (rmk m t)),.string (st t)])/\Below W.heap.size W w'):=fun W h=>zes m t hm ht W h
 have SC:Hid (∀W,Cl 280 #[.agg #[.string (st (rmk m t)),.string (st t)]] W fun e w'=>e = .returned (.string (st (rcd m t)))/\Below W.heap.size W w'):=fun W=>zb0 (rmk m t) t rfl ht W
 have hsn:sn t<=100:=by unfold sn;omega
 have WR:Hid (∀W F,Dl w W p F s->Cl 222 #[plc p fr mn,.int .i64 (tk:Int),.string (st (rcd m t))] W fun e w'=>e = .returned (.int .i64 (wrb s (fr+tk) (rcd m t)).1)/\Ds w W p F (wrb s (fr+tk) (rcd m t)).2 w'):=fun W F k=>zbV w W p F s fr tk mn (rcd m t) (sn t) (zaF m t) hsn hz (by omega) k
 have HS:Hid (∀W F s v,HD w W p F s q fr mn g v ts tk m more->Cl 281 #[.pointer (some ⟨q,0,none⟩),.agg #[.string (st (rmk m t)),.string (st t)]] W fun e w'=>e = .returned (.tuple #[])/\∃v',HD w w' p F s q fr mn g v' (ts++[t]) (tk+sn t) (rmk m t) more/\Bf (HFt q v) W w'/\Nx W (HFt q v) (HFt q v')):=fun W F s v k =>
  (zge q p fr mn g v ts tk m more (rmk m t) t ht hts (by omega) W k.hf).mono fun _ _ ⟨he,v',h1,h2,h3⟩=>⟨he,v',k.half h1 h2 h3,h2,h3⟩
 obtain⟨y,hy⟩:∃y,wrb s (fr+tk) (rcd m t)=y:=⟨_,rfl⟩;obtain⟨x,hx⟩:∃x,y.1=x:=⟨_,rfl⟩;rw[hy,hx] at WR ⊢;unfold plc sv at *;obtain⟨T,hT⟩:∃T,st t=T:=⟨_,rfl⟩;obtain⟨A,hA⟩:∃A,st m=A:=⟨_,rfl⟩;obtain⟨M,hM⟩:∃M,st (rmk m t)=M:=⟨_,rfl⟩;obtain⟨R,hR⟩:∃R,st (rcd m t)=R:=⟨_,rfl⟩;rw[hT,hM] at NX SC HS;rw[hA] at NX;rw[hR] at SC WR;rw[hT];have k6:va.cell? ⟨q,6,none⟩=some (.string A):=by rw[<-hA];exact h.out.hf.bk.c 6 _ rfl
 have HX:Hid (y.1=x):=hx;clear hT hA hM hR hy hx hm ht hts hl;go_enter Tryz.func206, Tryz.ntmps206;go_wp2_with fail;refine cM (NX.out _ (h.out.kh hk.out)) ?_;rintro e w1 ⟨rfl,hb⟩;have I1:Hid (HD w (w1.alloc (.cells #[.string M,.string T] 337)) p F s q fr mn g v ts tk m more/\Below va.heap.size va (w1.alloc (.cells #[.string M,.string T] 337))):=⟨(h.out.later hb).later (nb _ _),chain hb (nb _ _)⟩;have J1:Hid (Blk (w1.alloc (.cells #[.string M,.string T] 337)) w1.heap.size [.string M,.string T]):=Blk.new w1 [.string M,.string T] _ (by simp);obtain⟨B,hB⟩:∃B,w1.heap.size=B:=⟨_,rfl⟩;have NF:Hid (∀x,FH F q v x->x≠B):=fun x hx e=>by
  have hl:x < w1.heap.size:=by
   rcases hx with c|c
   ·exact (h.out.later hb).dl.at_.lt c
   ·exact (h.out.later hb).hf.lt c
  omega
 clear hb h k6 NX;go_wp2_with fail;obtain⟨V,hV⟩:∃V,w1.alloc (.cells #[.string M,.string T] 337)=V:=⟨_,rfl⟩;rw[hB] at J1;rw[hV] at I1 J1 ⊢;clear hB hV;have c0:=I1.out.1.hf.bk.c 0 _ rfl;have c1:=I1.out.1.hf.bk.c 1 _ rfl;have c2:=I1.out.1.hf.bk.c 2 _ rfl;have c5:=I1.out.1.hf.bk.c 5 _ rfl;have r0:=J1.out.c 0 _ rfl;have r1:=J1.out.c 1 _ rfl;have NQ:Hid (¬F q):=(I1.out.1.ap q (.inl rfl)).1;have NB:Hid (¬F B):=fun c=>NF.out B (.inl c) rfl
 have D1:Hid (∀W,Below V.drew.heap.size V.drew W->HD w W p F s q fr mn g v ts tk m more/\Bf (FH F q v) va W/\Blk W B [.string M,.string T]):=fun W hb=>⟨(I1.out.1.later (bQ _ _).drew).later hb,Bf.of (chd I1.out.2 hb),J1.out.drew.later hb⟩
 clear I1 J1;go_region_held3 (fun w'=>w'.cell? ⟨q,0,none⟩=some (.pointer (some ⟨p,0,none⟩))/\w'.cell? ⟨q,1,none⟩=some (.int .i64 (fr:Int))/\w'.cell? ⟨q,2,none⟩=some (.int .i64 (mn:Int))/\w'.cell? ⟨q,5,none⟩=some (.int .i64 (tk:Int))/\w'.cell? ⟨B,0,none⟩=some (.string M)/\w'.cell? ⟨B,1,none⟩=some (.string T)) (first|exact⟨c0,c1,c2,c5,r0,r1⟩|assumption|exact zrF (by assumption) (by assumption)|exact zpy NQ.out NB.out (by assumption) (by assumption)) (first|(go_at_call 280;refine cM (SC.out _) ?_;rintro e w2 ⟨rfl,hb2⟩)|(go_at_call 222;refine cM (WR.out _ _ (D1.out _ (by assumption)).1.dl) ?_;rintro e w3 ⟨rfl,hd3⟩));have D2:=D1.out w2 hb2;obtain⟨F3,d1,d2,d3⟩:=hd3;have I3:Hid (HD w w3 p F3 y.2 q fr mn g v ts tk m more/\Bf (FH F q v) va w3/\Nx2 va F q v F3 v):=⟨D2.1.disk d1 d2 d3,D2.2.1.trans (Nx.refl _ _) (d3.wide fun _ c => .inl c),(Nx.refl va _).trans d2 D2.2.1.size,Nx.refl _ _⟩;have J3:Hid (Blk w3 B [.string M,.string T]):=D2.2.2.bf d3 NB.out;clear D1 D2 d1 d2 d3 hb2 WR SC c0 c1 c2 c5 r0 r1 NQ NB;by_cases h0:x=0
 ·subst h0
  have r0:=J3.out.c 0 _ rfl;have r1:=J3.out.c 1 _ rfl;have H4:Hid _:=HS.out w3 F3 y.2 v I3.out.1;clear HS J3;go_wp2_with fail;refine cM H4.out ?_;rintro e w4 ⟨rfl,v4,h1,h2,h3⟩;have FF:Hid (AdP w va p F q fr mn g v ts tk m more t y w4):=⟨F3,v4,I3.out.2.2.trans ⟨Nx.refl _ _,h3⟩ I3.out.2.1.size,I3.out.2.1.trans I3.out.2.2.fh (h2.wide fun _ c => .inr c),.inl ⟨HX.out,h1⟩⟩;clear h1 h2 h3 I3 H4 r0 r1;go_wp2;go_ret;exact⟨rfl,FF.out⟩
 ·have FF:Hid (AdP w va p F q fr mn g v ts tk m more t y w3):=⟨F3,v,I3.out.2.2,I3.out.2.1,.inr ⟨by rw[HX.out];exact h0,I3.out.1⟩⟩
  clear I3 J3 HS;go_wp2;go_ret;exact⟨rfl,FF.out⟩
theorem zpz {s:St} (h:Ok s) (k:Nat):∀(H j:Nat),j < H->((hb s k H).drop (64*j)).take 64=s.sh (k+j):=fun H j hj=>by
 obtain⟨d,rfl⟩:∃d,H=j+(1+d):=⟨H - j - 1,by omega⟩;rw[zga,zga,List.drop_left' (zcQ h k j)];have e:hb s (k+j) 1=s.sh (k+j):=by simp[hb]
 rw[e,List.take_left' (h.sh64 _)]
theorem zfe (s:St) (k:Nat) (b:Bs) (hb:b.length=64):wrb s k b=(wrE s (k:Int) b,wrS s (k:Int) b):=by
 have e:chs (b.length / 64) b=[b]:=by
  rw[hb];show [b.take 64]=[b]
  rw[List.take_of_length_le (by omega)]
 rw[wrb,e,wrs];by_cases h:wrE s (k:Int) b=0
 ·rw[zao h,wrs,h]
 ·rw[zaA h]
theorem zk2 {s:St} {k j m:Nat} {d:Bool} (hj:j < m) (hz:s.sh (k+j)=zr 64):cls s (k+j) (m - j) d=cls s (k+(j+1)) (m - (j+1)) d:=by
 obtain⟨q,hq⟩:∃q,m - j=q+1:=⟨m - j - 1,by omega⟩;rw[hq,cls,if_pos hz,show m - (j+1)=q by omega];rfl
theorem zk3 {s:St} {k j m:Nat} {d:Bool} (hj:j < m) (hz:s.sh (k+j)≠zr 64):cls s (k+j) (m - j) d=thn (wrb s (k+j) (zr 64)) fun s'=>cls s' (k+(j+1)) (m - (j+1)) true:=by
 obtain⟨q,hq⟩:∃q,m - j=q+1:=⟨m - j - 1,by omega⟩;rw[hq,cls,if_neg hz,show m - (j+1)=q by omega,zfe s (k+j) (zr 64) (zbH 64)];rfl
theorem zpA (s:St) (k:Nat) (b:Bs) (j:Nat) (hj:j≠k):(wrS s (k:Int) b).sh j=s.sh j:=by
 unfold wrS
 split
 ·rfl
 ·split
  ·rfl
  ·split
   ·rfl
   ·show lay s.f (s.l++[⟨(k:Int).toNat,b⟩]) j=lay s.f s.l j
    rw[zdl,Int.toNat_natCast,upd_other _ _ hj]
structure Ck (w va:Wo) (p:Nat) (F:Nat->Prop) (s:St) (q fr mn g:Nat) (v:Value) (ts:List Bs) (tk:Nat) (m:Bs) (more:List Value) (r:Int×St) (j:Nat) (d:Bool) (wr:Wo) (F':Nat->Prop) (s':St):Prop where
 hd:HD w wr p F' s' q fr mn g v ts tk m more
 nx:Nx va F F'
 bf:Bf F va wr
 ln:s'.l.length<=s.l.length+(j - tk)
 eq:r=cls s' (fr+j) (mn - j) d
 sh:∀i,j<=i->s'.sh (fr+i)=s.sh (fr+i)
section
variable {w va:Wo} {p:Nat} {F:Nat->Prop} {s:St} {q fr mn g:Nat} {v:Value} {ts:List Bs} {tk:Nat} {m:Bs} {more:List Value} {r:Int×St} {j:Nat} {d:Bool} {wr:Wo} {F':Nat->Prop} {s':St}
theorem Ck.later (h:Ck w va p F s q fr mn g v ts tk m more r j d wr F' s') {w':Wo} (hb:Bw wr w'):Ck w va p F s q fr mn g v ts tk m more r j d w' F' s':=⟨h.hd.later hb,h.nx,h.bf.later hb,h.ln,h.eq,h.sh⟩
theorem Ck.skip (h:Ck w va p F s q fr mn g v ts tk m more r j d wr F' s') (hj:j < mn) (hz:s.sh (fr+j)=zr 64):Ck w va p F s q fr mn g v ts tk m more r (j+1) d wr F' s' :=
 ⟨h.hd,h.nx,h.bf,by have:=h.ln;omega,h.eq.trans (zk2 hj ((h.sh j (nL _)).trans hz)),fun i hi=>h.sh i (by omega)⟩
theorem Ck.ds (h:Ck w va p F s q fr mn g v ts tk m more r j d wr F' s'):Ds w va p F s' wr:=⟨F',h.hd.dl,h.nx,h.bf⟩
end
theorem zk4 {a b:Bs} (h:a≠b):((st a).toList == (st b).toList)=false:=beq_eq_false_iff_ne.2 fun e=>h (by
 have:=zhL e;have:=congrArg (fun x:Ba=>x.data.toList) this;exact this)
theorem zrG {wa wb:Wo} {q:Nat} {x0 x1 x2:Value} (hb:Bw wa wb) (h:wa.cell? ⟨q,0,none⟩=some x0/\wa.cell? ⟨q,1,none⟩=some x1/\wa.cell? ⟨q,2,none⟩=some x2) :
  wb.cell? ⟨q,0,none⟩=some x0/\wb.cell? ⟨q,1,none⟩=some x1/\wb.cell? ⟨q,2,none⟩=some x2:=⟨cell_later hb h.1,cell_later hb h.2.1,cell_later hb h.2.2⟩
theorem zpB {w wa wb:Wo} {p:Nat} {F:Nat->Prop} {s:St} {q:Nat} {x0 x1 x2:Value} (hq:¬F q) (hd:Ds w wa p F s wb) (h:wa.cell? ⟨q,0,none⟩=some x0/\wa.cell? ⟨q,1,none⟩=some x1/\wa.cell? ⟨q,2,none⟩=some x2) :
  wb.cell? ⟨q,0,none⟩=some x0/\wb.cell? ⟨q,1,none⟩=some x1/\wb.cell? ⟨q,2,none⟩=some x2:=by
 obtain⟨F',-,-,hb⟩:=hd;exact⟨hb.cell h.1 hq,hb.cell h.2.1 hq,hb.cell h.2.2 hq⟩
theorem zcU (w va:Wo) (p:Nat) (F:Nat->Prop) (s:St) (q fr mn g:Nat) (v:Value) (ts:List Bs) (tk:Nat) (m:Bs) (more:List Value) (h1:1<=mn) (h2:fr+mn<=s.n) (h3:tk<=mn) (hl:s.l.length+mn+1<=1000000) (h:Hid (HD w va p F s q fr mn g v ts tk m more)) :
  Cl 141 #[.pointer (some ⟨q,0,none⟩)] va fun e w'=>e = .returned (.int .i64 (cln s (fr+tk) (mn - tk)).1)/\Ds w va p F (cln s (fr+tk) (mn - tk)).2 w':=by
 have OK:=h.out.dl.at_.1;have hn:=OK.n2;have RD:Hid _:=zcu w va p F s fr mn h1 h2 h.out.dl;have k0:=h.out.hf.bk.c 0 _ rfl;have k1:=h.out.hf.bk.c 1 _ rfl;have k2:=h.out.hf.bk.c 2 _ rfl;have gm:mn<=1024:=by omega
 have gf:fr<=1024:=by omega
 by_cases hd:s.down=true
 ·have e1:cln s (fr+tk) (mn - tk)=(150,s):=if_pos hd
  have e2:rdA s fr mn = .tuple #[.string ⟨#[]⟩,.int .i64 150]:=if_pos hd;rw[e1];rw[e2] at RD;clear e1 e2 OK hd;unfold plc at RD;go_enter Tryz.func141, Tryz.ntmps141;go_wp2_with fail;refine cM RD.out ?_;rintro e w1 ⟨rfl,hb⟩;have FF:Hid (Ds w va p F s w1):=⟨F,h.out.dl.later hb,Nx.refl _ _,Bf.of hb⟩;clear hb h k0 k1 k2 RD;go_wp2;go_ret;exact⟨rfl,FF.out⟩
 ·obtain⟨r,hr⟩:∃r,cln s (fr+tk) (mn - tk)=r:=⟨_,rfl⟩
  have e1:r=cls s (fr+tk) (mn - tk) false:=by rw[<-hr];exact if_neg hd
  have e2:rdA s fr mn = .tuple #[.string (st (hb s fr mn)),.int .i64 0]:=if_neg hd;rw[hr];rw[e2] at RD;have CUT:Hid (∀j,j < mn->(st (hb s fr mn)).extract (64*j) (64*j+64)=st (s.sh (fr+j))):=fun j hj=>by
   rw[zco,List.drop_take,show 64*j+64 - 64*j=64 by omega,zpz OK fr mn j hj]
  have HS:Hid ((st (hb s fr mn)).size=64*mn):=by
   show _=_;rw[zaf,zcQ OK]
  have I0:Hid (∀W,Bw va W->Ck w va p F s q fr mn g v ts tk m more r tk false W F s):=fun W hb=>⟨h.out.later hb,Nx.refl _ _,Bf.of hb,Nat.le_add_right _ _,e1,fun _ _=>rfl⟩
  have HL:Hid (s.l.length+mn+1<=1000000):=hl;have ZR:Hid (∀W,Cl 221 #[.int .i64 64] W fun e w'=>e = .returned (.string (st (zr 64)))/\Bw W w'):=zcR 64 (by decide);obtain⟨X,hX⟩:∃X,st (hb s fr mn)=X:=⟨_,rfl⟩;obtain⟨Z,hZ⟩:∃Z,st (zr 64)=Z:=⟨_,rfl⟩;rw[hX] at RD CUT HS;rw[hZ] at ZR;have HZ:Hid (st (zr 64)=Z):=hZ;clear e1 e2 hr hX hZ hd OK hl;unfold plc at RD;go_enter Tryz.func141, Tryz.ntmps141;go_wp2_with fail;refine cM RD.out ?_;rintro e w1 ⟨rfl,hb⟩;have I1:Hid _:=I0.out w1 hb;clear hb h k0 k1 k2 RD I0;have k5:=I1.out.hd.hf.bk.c 5 _ rfl;go_wp2;clear k5;go_loopw [5,6] (fun d i wr=>∃(j:Nat) (F':Nat->Prop) (s':St) (b:Bool),tk<=j/\j<=mn/\d = .bool b/\i = .int .i64 (j:Int)/\Hid (Ck w va p F s q fr mn g v ts tk m more r j b wr F' s')) (fun _ i _=>mn - (intOf i).toNat)
  case atStart=>exact⟨tk,F,s,false,nL _,h3,rfl,rfl,I1.out⟩
  case round =>
   obtain⟨j,F',s',b,hj0,hj,rfl,rfl,I⟩:=hrel;clear I1;have k2:=I.out.hd.hf.bk.c 2 _ rfl;by_cases hlt:j < mn
   ·have g1:(j:Int) < (mn:Int):=by omega
    have y1:IntKind.i64.wrap ((j:Int)*64)=(j:Int)*64:=by rw[IntKind.wrap_i64];omega
    have y2:IntKind.i64.wrap ((j:Int)+1)=(j:Int)+1:=by rw[IntKind.wrap_i64];omega
    have y3:IntKind.i64.wrap (((j:Int)+1)*64)=((j:Int)+1)*64:=by rw[IntKind.wrap_i64];omega
    have CT:=CUT.out j hlt;have SLI:∀W,(Instr.slice 9 (.string X) (some (.int .i64 ((j:Int)*64))) (some (.int .i64 (((j:Int)+1)*64))) none).run Tryz.prog W = .ok (.string (st (s.sh (fr+j)))) W:=fun W=>by
     rw[<-CT];exact ziG X (64*j) (64*j+64) _ _ (by omega) (by omega) (by omega) (by rw[HS.out];omega) W
    clear CT;by_cases hz:s.sh (fr+j)=zr 64
    ·rw[hz,HZ.out] at SLI
     have I2:Hid _:=I.out.skip hlt hz;clear hz;go_wp2_with fail;go_region_with (first|(go_at_call 221;refine cM (ZR.out _) ?_;rintro e w2 ⟨rfl,hb2⟩))
     all_goals
      have I3:Hid _:=(I2.out.later (bQ _ _).drew).later hb2;clear hb2 I2 I SLI;go_wp2;go_roundw
      case rel=>exact⟨j+1,F',s',b,by omega,by omega,rfl,rfl,I3.out⟩
      case measure=>simp[intOf];omega
    ·have hne:=zk4 hz
     rw[HZ.out] at hne;have hsh:s'.sh (fr+j)≠zr 64:=by rw[I.out.sh j (nL _)];exact hz
     have HR:Hid (r=_):=I.out.eq.trans (zk3 hlt hsh);have NS:Hid (∀i,j+1<=i->(wrb s' (fr+j) (zr 64)).2.sh (fr+i)=s.sh (fr+i)):=fun i hi=>by
      rw[zfe _ _ _ (zbH 64)];exact (zpA _ _ _ _ (by omega)).trans (I.out.sh i (by omega))
     have NL:Hid ((wrb s' (fr+j) (zr 64)).2.l.length<=s.l.length+(j+1 - tk)):=by
      show _<=_;rw[zfe _ _ _ (zbH 64)];have:=zdB s' ((fr+j:Nat):Int) (zr 64);have:=I.out.ln;show (wrS s' ((fr+j:Nat):Int) (zr 64)).l.length<=_
      omega
     have WR:Hid (∀W,Dl w W p F' s'->Cl 222 #[.agg #[.pointer (some ⟨p,0,none⟩),.int .i64 (fr:Int),.int .i64 (mn:Int)],.int .i64 (j:Int),.string Z] W fun e w'=>e = .returned (.int .i64 (wrb s' (fr+j) (zr 64)).1)/\Ds w W p F' (wrb s' (fr+j) (zr 64)).2 w'):=fun W k=>by
      rw[<-HZ.out];exact zbV w W p F' s' fr j mn (zr 64) 1 (zbH 64) (by decide) (by omega) (by have:=I.out.ln;have:=HL.out;omega) k
     obtain⟨S,hS⟩:∃S,st (s.sh (fr+j))=S:=⟨_,rfl⟩;rw[hS] at SLI hne;obtain⟨y,hy⟩:∃y,wrb s' (fr+j) (zr 64)=y:=⟨_,rfl⟩;rw[hy] at HR NS NL WR;obtain⟨x,hx⟩:∃x,y.1=x:=⟨_,rfl⟩;rw[hx] at WR;have HX:Hid (y.1=x):=hx;clear hS hz hsh hy hx;go_wp2_with fail;go_region_with (first|(go_at_call 221;refine cM (ZR.out _) ?_;rintro e w2 ⟨rfl,hb2⟩))
     all_goals
      have I3:Hid _:=(I.out.later (bQ _ _).drew).later hb2;clear hb2 I SLI k2;go_wp2_with fail;have c0:=I3.out.hd.hf.bk.c 0 _ rfl;have c1:=I3.out.hd.hf.bk.c 1 _ rfl;have c2:=I3.out.hd.hf.bk.c 2 _ rfl;have NQ:Hid (¬F' q):=(I3.out.hd.ap q (.inl rfl)).1;have D1:Hid (∀W,Below w2.drew.heap.size w2.drew W->Ck w va p F s q fr mn g v ts tk m more r j b W F' s'):=fun W hb=>(I3.out.later (bQ _ _).drew).later hb
      clear I3;go_region_held3 (fun w'=>w'.cell? ⟨q,0,none⟩=some (.pointer (some ⟨p,0,none⟩))/\w'.cell? ⟨q,1,none⟩=some (.int .i64 (fr:Int))/\w'.cell? ⟨q,2,none⟩=some (.int .i64 (mn:Int))) (first|exact⟨c0,c1,c2⟩|assumption|exact zrG (by assumption) (by assumption)|exact zpB NQ.out (by assumption) (by assumption)) (first|(go_at_call 221;refine cM (ZR.out _) ?_;rintro e w3 ⟨rfl,hb3⟩)|(go_at_call 222;refine cM (WR.out _ (D1.out _ (by assumption)).hd.dl) ?_;rintro e w4 ⟨rfl,hd4⟩));have D2:=D1.out w3 hb3;obtain⟨F4,d1,d2,d3⟩:=hd4;have I4:Hid (HD w w4 p F4 y.2 q fr mn g v ts tk m more/\Nx va F F4/\Bf F va w4):=⟨D2.hd.disk d1 d2 d3,D2.nx.trans d2 D2.bf.size,D2.bf.trans D2.nx d3⟩;clear D1 D2 d1 d2 d3 hb3 WR c0 c1 c2 NQ;by_cases h0:x=0
      ·subst h0
       have I5:Hid (Ck w va p F s q fr mn g v ts tk m more r (j+1) true w4 F4 y.2):=⟨I4.out.1,I4.out.2.1,I4.out.2.2,NL.out,HR.out.trans (zao HX.out),NS.out⟩;clear I4 HR NS NL;go_wp2;go_roundw
       case rel=>exact⟨j+1,F4,y.2,true,by omega,by omega,rfl,rfl,I5.out⟩
       case measure=>simp[intOf];omega
      ·have HR2:Hid (r=y):=HR.out.trans (zaA (by rw[HX.out];exact h0))
       have FF:Hid (Ds w va p F y.2 w4):=⟨F4,I4.out.1.dl,I4.out.2.1,I4.out.2.2⟩;clear I4 HR NS NL;go_wp2;go_ret;exact⟨by rw[HR2.out,HX.out];rfl,by rw[HR2.out];exact FF.out⟩
   ·obtain rfl:j=mn:=by omega
    have HR:=I.out.eq;rw[Nat.sub_self,cls] at HR;cases b
    ·have HR2:Hid (r=(0,s')):=HR
     have FF:Hid (Ds w va p F s' wr):=I.out.ds;clear HR;go_wp2;go_ret;exact⟨by rw[HR2.out];rfl,by rw[HR2.out];exact FF.out⟩
    ·have HR2:Hid (r=(syE s',syS s')):=HR
     have SY:Hid _:=zbI w wr p F' s' fr j (by have:=I.out.ln;have:=HL.out;omega) I.out.hd.dl;have c0:=I.out.hd.hf.bk.c 0 _ rfl;have c1:=I.out.hd.hf.bk.c 1 _ rfl;have JJ:Hid (Nx va F F'/\Bf F va wr):=⟨I.out.nx,I.out.bf⟩;unfold plc at SY;clear HR I;go_wp2_with fail;refine cM SY.out ?_;rintro e w5 ⟨rfl,F5,d1,d2,d3⟩;have FF:Hid (Ds w va p F (syS s') w5):=⟨F5,d1,JJ.out.1.trans d2 JJ.out.2.size,JJ.out.2.trans JJ.out.1 d3⟩;clear d1 d2 d3 SY;go_wp2;go_ret;exact⟨by rw[HR2.out];rfl,by rw[HR2.out];exact FF.out⟩
abbrev hv (p fr mn g:Nat) (v:Value) (tk:Nat) (m:Bs):Value := .agg (hc p fr mn g v tk m []).toArray
abbrev hz0:List Value:=[.pointer none,.int .i64 0,.int .i64 0,.int .i64 0,.slice none 0 0,.int .i64 0,.string ⟨#[]⟩]
def fT (s:St) (fr mn:Nat):List Bs:=if gen (hb s fr mn)=0 then [] else zdP s fr mn (gen (hb s fr mn))
def fK (s:St) (fr mn:Nat):Nat:=if gen (hb s fr mn)=0 then 0 else tkn 1 (fT s fr mn)
def fM (s:St) (fr mn:Nat):Bs:=if gen (hb s fr mn)=0 then [] else mks (hm (gen (hb s fr mn))) (fT s fr mn)
theorem zgX (w va:Wo) (p:Nat) (F:Nat->Prop) (s:St) (fr mn:Nat) (h1:1<=mn) (h2:fr+mn<=s.n) (hd:s.down=true) (h:Hid (Dl w va p F s)) :
  Cl 216 #[plc p fr mn] va fun e w'=>e = .returned (.tuple #[.agg hz0.toArray,.int .i64 150])/\Bw va w':=by
 have e2:rdA s fr mn = .tuple #[.string ⟨#[]⟩,.int .i64 150]:=if_pos hd;have RD:Hid (∀W,Bw va W->Cl 220 #[.agg #[.pointer (some ⟨p,0,none⟩),.int .i64 (fr:Int),.int .i64 (mn:Int)]] W fun e w'=>e = .returned (.tuple #[.string ⟨#[]⟩,.int .i64 150])/\Bw W w'):=fun W hb=>by
  have:=zcu w W p F s fr mn h1 h2 (h.out.later hb);rw[e2] at this;exact this
 have I0:Hid (Blk ((va.alloc (.cells #[.pointer (some ⟨p,0,none⟩),.int .i64 (fr:Int),.int .i64 (mn:Int)] 235)).alloc (.cells hz0.toArray 237)) (va.heap.size+1) hz0/\Bw va ((va.alloc (.cells #[.pointer (some ⟨p,0,none⟩),.int .i64 (fr:Int),.int .i64 (mn:Int)] 235)).alloc (.cells hz0.toArray 237))):=⟨zct va _ hz0 _ (by simp),chain (nb _ _) (nb _ _)⟩;clear e2 h hd h1 h2;unfold plc;go_enter Tryz.func216, Tryz.ntmps216;go_wp2_with fail;refine cM (RD.out _ I0.out.2) ?_;rintro e w1 ⟨rfl,hb⟩;have I1:Hid (_/\_):=And.intro (I0.out.1.later hb) (chain I0.out.2 hb);clear hb I0 RD;have k0:=I1.out.1.c 0 _ rfl;have k1:=I1.out.1.c 1 _ rfl;have k2:=I1.out.1.c 2 _ rfl;have k3:=I1.out.1.c 3 _ rfl;have k4:=I1.out.1.c 4 _ rfl;have k5:=I1.out.1.c 5 _ rfl;have k6:=I1.out.1.c 6 _ rfl;have kf:=I1.out.1.f;have FI:Hid (_/\_):=And.intro (I1.out.1.put hz0 rfl) (zah (Nat.le_succ _) hz0 0 I1.out.2);clear I1;go_wp2;refine bodyPost_ret (v := .tuple #[.agg hz0.toArray,.int .i64 150]) ?_ rfl ⟨rfl,FI.out.2⟩;exact zaS Tryz.results216 _ _ (va.heap.size+1) _ _ (by kernel_rfl) (by kernel_rfl) (run_loadVar_mid _ (va.heap.size+1) 0 237 hz0 _ FI.out.1.r Tryz.underlying237 rfl (by kernel_rfl))
end Go.Proofs.YtjcppbhgjchjaaaGreatDoor.Sto
