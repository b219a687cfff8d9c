/- Parts: LgT,LgU,LgH,DkRa,DkRb,LrA. -/
import Derived.Test.YtjpaodepnacimaaGreatDoorZdG11
import Derived.Test.YtjpaodepnacimaaGreatDoorZdG10
import Derived.Lib.AppendZeros
import Derived.Test.YtjpaodepnacimaaGreatDoorZdG07
namespace Go.Proofs.YtjpaodepnacimaaGreatDoor
open Go.RowKit Go.Proofs.Fd Go.Proofs.Dk Go.Proofs.Lg
set_option maxRecDepth 20000
theorem lsync_any (w v:World) (p:Nat) (F:Nat→Prop) (s:St) (fr mn:Nat) (hl:s.l.length≤1000000) (h:Hid (Dl w v p F s)) :
  Calls Tryz.prog 96 #[plc p fr mn] v fun e w'=>e = .returned (.int .i64 (syE s))∧Ds w v p F (syS s) w':=by
 have I0:Hid (Wr w v p F fr mn _ F s):=Wr.begin h.out fr mn 128
 have SY:Hid (∀wr,Wr w v p F fr mn wr F s→Calls Tryz.prog 128 #[.pointer (some ⟨p,0,none⟩)] wr fun e w'=>e = .returned (.int .i64 (syE s))∧Ds w v p F (syS s) w'):=fun wr k =>
  (syncL w wr p F s hl k.dl).mono fun _ _ ⟨he,F',h1,h2,h3⟩=>⟨he,(k.stp h1 h2 h3).ds⟩
 obtain⟨x,hx⟩:∃x,syE s=x:=⟨_,rfl⟩
 obtain⟨t,ht⟩:∃t,syS s=t:=⟨_,rfl⟩
 rw[hx,ht] at SY ⊢
 clear hx ht h hl
 go_enter Tryz.func96, Tryz.ntmps96
 go_wp2_with fail
 refine Calls.mono (SY.out _ I0.out) ?_
 rintro e w1 ⟨rfl,hd⟩
 have FF:Hid _:=hd
 clear hd
 go_wp2
 go_ret
 exact⟨rfl,FF.out⟩
theorem nb (w:World) (o:Obj):Below w.heap.size w (w.alloc o):=(Below.refl _ _).alloc (Nat.le_refl _) _
theorem blk_two (w:World) (o:Obj) (cs:List Value) (ty:TypeId) (hn:cs≠[]):Blk ((w.alloc o).alloc (.cells cs.toArray ty)) (w.heap.size+1) cs:=by
 have:=Blk.new (w.alloc o) cs ty hn
 rw[show (w.alloc o).heap.size=w.heap.size+1 by simp] at this
 exact this
theorem lother_any (w:World) (p fr mn:Nat) (h1:fr≤mn) (h2:mn≤4000):Calls Tryz.prog 64 #[plc p fr mn] w fun e w'=>e = .returned (plc p (mn - fr) mn)∧Below w.heap.size w w':=by
 have y1:IntKind.i64.wrap ((mn:Int) - (fr:Int))=((mn - fr:Nat):Int):=by rw[IntKind.wrap_i64];omega
 have e1:(mn:Int) - (fr:Int)=((mn - fr:Nat):Int):=by omega
 obtain⟨d,hd⟩:∃d,mn - fr=d:=⟨_,rfl⟩
 rw[hd] at y1 e1 ⊢
 have J1:Hid (_∧_):=And.intro (blk_two w (.cells #[.pointer (some ⟨p,0,none⟩),.int .i64 (fr:Int),.int .i64 (mn:Int)] 128) [.pointer (some ⟨p,0,none⟩),.int .i64 (d:Int),.int .i64 (mn:Int)] 128 (by simp)) (chain (nb w (.cells #[.pointer (some ⟨p,0,none⟩),.int .i64 (fr:Int),.int .i64 (mn:Int)] 128)) (nb _ (.cells #[.pointer (some ⟨p,0,none⟩),.int .i64 (d:Int),.int .i64 (mn:Int)] 128)))
 have hf:(fr:Int)≤(mn:Int):=by omega
 have hm:(mn:Int)≤4000:=by omega
 clear h1 h2 hd
 unfold plc
 go_enter Tryz.func64, Tryz.ntmps64
 go_wp2
 refine bodyPost_ret (v:=plc p d mn) ?_ rfl ⟨rfl,J1.out.2⟩
 exact res_c1 Tryz.results64 _ _ (w.heap.size+1) _ (by kernel_rfl) (run_loadVar_mid _ (w.heap.size+1) 0 128 [.pointer (some ⟨p,0,none⟩),.int .i64 (d:Int),.int .i64 (mn:Int)] _ J1.out.1.r Tryz.underlying128 rfl (by kernel_rfl))
theorem rch_d {s:St} (h:s.down=true) (k:Int):rch s k=150:=if_pos h
theorem rch_in {s:St} (h:s.down=false) {k:Nat} (hk:k < s.n):rch s (k:Int)=0:=by
 unfold rch
 rw[if_neg (by rw[h];simp),if_neg (by omega)]
theorem rdV_in {s:St} (h:s.down=false) {k:Nat} (hk:k < s.n):rdV s (k:Int)=s.sh k:=by
 unfold rdV
 rw[if_pos (rch_in h hk),Int.toNat_natCast]
def rdA (s:St) (fr mn:Nat):Value:=if s.down=true then .tuple #[sv [],.int .i64 150] else .tuple #[sv (hb s fr mn),.int .i64 0]
theorem builder_new (w:World):Lib.IsBuilder 187 5 w.heap.size w.heap.size (Lib.byteCells []) (w.alloc (.cells #[.pointer none,.slice none 0 0] 187)):=Lib.fresh_isBuilder _ _ w
theorem builder_write (B:Nat) (l m:Bs) (w:World) (h:Lib.IsBuilder 187 5 B B (Lib.byteCells l) w) (hl:l.length+m.length≤1000000) (hB:B≤w.heap.size) :
  Calls Tryz.prog 133 #[.pointer (some ⟨B,0,none⟩),.string (st m)] w fun e w'=>e = .returned (.tuple #[.int .i64 (m.length:Int),.nilIface])∧Lib.IsBuilder 187 5 B B (Lib.byteCells (l++m)) w'∧Below B w w':=by
 refine (Any.Builder_WriteString (ρ:=repAt) { repLies with } repMore B B (Lib.byteCells l) (st m) w h (by rw[Lib.byteCells_length,st_size];omega) hB).mono fun e w' ⟨he,h1,h2⟩=>⟨?_,.inr ?_,h2⟩
 ·rw[he,st_size]
 ·rw[Lib.byteCells_append]
  exact h1
theorem builder_string (B:Nat) (l:Bs) (w:World) (h:Lib.IsBuilder 187 5 B B (Lib.byteCells l) w) (hB:B≤w.heap.size) :
  Calls Tryz.prog 134 #[.pointer (some ⟨B,0,none⟩)] w fun e w'=>e = .returned (.string (st l))∧Below B w w':=Any.Builder_String_any (ρ:=repAt) { repLies with } repMore B B l w h hB
set_option maxHeartbeats 2000000 in
theorem lread_any (w v:World) (p:Nat) (F:Nat→Prop) (s:St) (fr mn:Nat) (h1:1≤mn) (h2:fr+mn≤s.n) (h:Hid (Dl w v p F s)) :
  Calls Tryz.prog 104 #[plc p fr mn] v fun e w'=>e = .returned (rdA s fr mn)∧Below v.heap.size v w':=by
 have OK:=h.out.at_.1
 have hn:=OK.n2
 have H64:Hid (∀k,(hb s fr k).length=64*k):=fun k=>hb_len OK fr k
 have P64:Hid (∀k,(s.sh k).length=64):=OK.sh64
 have RD:Hid (∀(W:World) (k:Int),Below v.heap.size v W→Calls Tryz.prog 12 #[.pointer (some ⟨p,0,none⟩),.int .i64 k] W fun e w'=>e = .returned (.tuple #[.string (st (rdV s k)),.int .i64 (rch s k)])∧w'=W):=fun W k hb=>readL w W p F s k (h.out.later hb)
 have BK:Hid (_∧_):=And.intro (Blk.new v [.pointer (some ⟨p,0,none⟩),.int .i64 (fr:Int),.int .i64 (mn:Int)] 128 (by simp)) (nb v (.cells #[.pointer (some ⟨p,0,none⟩),.int .i64 (fr:Int),.int .i64 (mn:Int)] 128))
 obtain⟨va,hva⟩:∃va,v.alloc (.cells #[.pointer (some ⟨p,0,none⟩),.int .i64 (fr:Int),.int .i64 (mn:Int)] 128)=va:=⟨_,rfl⟩
 have hsz:va.heap.size=v.heap.size+1:=by rw[←hva];simp
 have BN:Hid (_∧_):=And.intro (builder_new va) (nb va (.cells #[.pointer none,.slice none 0 0] 187))
 have WS:Hid (∀(l m:Bs) (W:World),_):=builder_write (v.heap.size+1)
 have SS:Hid (∀(l:Bs) (W:World),_):=builder_string (v.heap.size+1)
 obtain⟨vb,hvb⟩:∃vb,va.alloc (.cells #[.pointer none,.slice none 0 0] 187)=vb:=⟨_,rfl⟩
 have HSZ:Hid (vb.heap.size=v.heap.size+2):=by
  show vb.heap.size=_
  rw[←hvb]
  simp[hsz]
 have BK':=BK.out
 have BN':=BN.out
 simp only[List.toArray] at BK'
 rw[hva] at BK'
 rw[hvb,hsz] at BN'
 have I0:Hid (Blk vb v.heap.size [.pointer (some ⟨p,0,none⟩),.int .i64 (fr:Int),.int .i64 (mn:Int)]∧Below v.heap.size v vb∧Lib.IsBuilder 187 5 (v.heap.size+1) (v.heap.size+1) (Lib.byteCells []) vb):=⟨BK'.1.below BN'.2 (by omega),BK'.2.trans (BN'.2.mono (by omega)),BN'.1⟩
 clear BK' BN' BK BN OK
 unfold plc
 have g0:(0:Int) < (mn:Int):=by omega
 have gm:mn≤1024:=by omega
 have gf:fr≤1024:=by omega
 by_cases hd:s.down=true
 ·have HR:Hid (rdA s fr mn = .tuple #[.string ⟨#[]⟩,.int .i64 150]):=if_pos hd
  have R1:Hid (Calls Tryz.prog 12 #[.pointer (some ⟨p,0,none⟩),.int .i64 (fr:Int)] vb fun e w'=>e = .returned (.tuple #[.string (st (rdV s (fr:Int))),.int .i64 150])∧w'=vb):=by
   have:=RD.out vb (fr:Int) I0.out.2.1
   rw[rch_d hd] at this
   exact this
  obtain⟨X,hX⟩:∃X,st (rdV s (fr:Int))=X:=⟨_,rfl⟩
  rw[hX] at R1
  have k0:=I0.out.1.c 0 _ rfl
  have k1:=I0.out.1.c 1 _ rfl
  have k2:=I0.out.1.c 2 _ rfl
  clear hX RD WS SS H64 P64
  go_enter Tryz.func104, Tryz.ntmps104
  go_wp2
  go_loopw [10] (fun i wr=>i = .int .i64 0∧wr=vb) (fun _ _=>0)
  case atStart=>exact⟨rfl,rfl⟩
  case round =>
   obtain⟨rfl,rfl⟩:=hrel
   go_wp2_with fail
   refine Calls.mono R1.out ?_
   rintro e w1 ⟨rfl,rfl⟩
   have FF:Hid (Below v.heap.size v w1):=I0.out.2.1
   clear I0
   go_wp2
   go_ret2
   exact⟨by rw[HR.out];rfl,FF.out⟩
 ·have hd':s.down=false:=by simpa using hd
  have HR:Hid (rdA s fr mn = .tuple #[.string (st (hb s fr mn)),.int .i64 0]):=if_neg hd
  have R1:Hid (∀(W:World) (k:Nat),k < mn→Below v.heap.size v W→Calls Tryz.prog 12 #[.pointer (some ⟨p,0,none⟩),.int .i64 ((fr:Int)+(k:Int))] W fun e w'=>e = .returned (.tuple #[.string (st (s.sh (fr+k))),.int .i64 0])∧w'=W):=fun W k hk hb=>by
   have:=RD.out W ((fr+k:Nat):Int) hb
   rw[rch_in hd' (by omega),rdV_in hd' (by omega),show ((fr+k:Nat):Int)=(fr:Int)+(k:Int) by omega] at this
   exact this
  have k2:=I0.out.1.c 2 _ rfl
  clear RD hd hd'
  go_enter Tryz.func104, Tryz.ntmps104
  go_wp2
  clear k2 hva hvb hsz
  go_loopw [10] (fun i wr=>∃k:Nat,k≤mn∧i = .int .i64 (k:Int)∧Hid (Blk wr v.heap.size [.pointer (some ⟨p,0,none⟩),.int .i64 (fr:Int),.int .i64 (mn:Int)]∧Below v.heap.size v wr∧Lib.IsBuilder 187 5 (v.heap.size+1) (v.heap.size+1) (Lib.byteCells (hb s fr k)) wr∧v.heap.size+2≤wr.heap.size)) (fun i _=>mn - (intOf i).toNat)
  case atStart=>exact⟨0,Nat.zero_le _,rfl,I0.out.1,I0.out.2.1,I0.out.2.2,by rw[HSZ.out];exact Nat.le_refl _⟩
  case round =>
   obtain⟨k,hk,rfl,I⟩:=hrel
   clear I0 HSZ
   by_cases hlt:k < mn
   ·have g1:(k:Int) < (mn:Int):=by omega
    have k0:=I.out.1.c 0 _ rfl
    have k1:=I.out.1.c 1 _ rfl
    have y1:IntKind.i64.wrap ((fr:Int)+(k:Int))=(fr:Int)+(k:Int):=by rw[IntKind.wrap_i64];omega
    have HE:Hid (hb s fr (k+1)=hb s fr k++s.sh (fr+k)):=hb_succ s fr k
    have R2:Hid _:=R1.out wr k hlt I.out.2.1
    have W2:Hid _:=WS.out (hb s fr k) (s.sh (fr+k)) wr I.out.2.2.1 (by rw[H64.out,P64.out];omega) (by have:=I.out.2.2.2;omega)
    obtain⟨X,hX⟩:∃X,st (s.sh (fr+k))=X:=⟨_,rfl⟩
    rw[hX] at R2 W2
    clear hX
    go_wp2_with fail
    refine Calls.mono R2.out ?_
    rintro e w1 ⟨rfl,rfl⟩
    go_wp2_with fail
    refine Calls.mono W2.out ?_
    rintro e w2 ⟨rfl,b1,b2⟩
    have J:Hid (Blk w2 v.heap.size [.pointer (some ⟨p,0,none⟩),.int .i64 (fr:Int),.int .i64 (mn:Int)]∧Below v.heap.size v w2∧Lib.IsBuilder 187 5 (v.heap.size+1) (v.heap.size+1) (Lib.byteCells (hb s fr (k+1))) w2∧v.heap.size+2≤w2.heap.size):=⟨I.out.1.below b2 (by omega),I.out.2.1.trans (b2.mono (by omega)),by rw[HE.out];exact b1,by have:=b2.size;have:=I.out.2.2.2;omega⟩
    clear b1 b2 I
    go_wp2
    go_roundw
    case rel=>exact⟨k+1,by omega,rfl,J.out⟩
    case measure=>simp[intOf];omega
   ·obtain rfl:k=mn:=by omega
    have S2:Hid _:=SS.out (hb s fr k) wr I.out.2.2.1 (by have:=I.out.2.2.2;omega)
    go_wp2_with fail
    refine Calls.mono S2.out ?_
    rintro e w2 ⟨rfl,b2⟩
    have FF:Hid (Below v.heap.size v w2):=I.out.2.1.trans (b2.mono (by omega))
    clear b2
    go_wp2
    go_ret2
    exact⟨by rw[HR.out];rfl,FF.out⟩
def scs (l:List Bs):List Value:=l.map fun t=>sv t
theorem scs_len (l:List Bs):(scs l).length=l.length:=List.length_map ..
theorem scs_app (l m:List Bs):scs (l++m)=scs l++scs m:=List.map_append ..
theorem scs_one (l:List Bs):∀u∈scs l,u.oneCell'=true:=fun u h=>by
 obtain⟨x,-,rfl⟩:=List.mem_map.1 h
 rfl
abbrev OwnsS (w:World) (v:Value) (l:List Bs):Prop:=w.ownsRow 0 9 1 v l.length (scs l)
theorem infoS:(Tryz.prog.info? 9).map (fun i=>(i.zero,i.size,i.bytes))=some (some (.string ⟨#[]⟩),1,16):=by kernel_rfl
theorem owns_nilS (w:World):OwnsS w (.slice none 0 0) []:=World.ownsRow_nil _ _ _ _
theorem owns_sliceS {w:World} {v:Value} {l:List Bs} (h:OwnsS w v l):∃a n c,v = .slice a n c:=by
 rcases h.2 with ⟨rfl,-⟩|⟨g,cap,cur,rfl,-⟩
 ·exact⟨_,_,_,rfl⟩
 ·exact⟨_,_,_,rfl⟩
theorem app_str (w:World) (ty:TypeId) (v:Value) (l:List Bs) (h:OwnsS w v l) (hl:l.length≤1000000) (t:Bs) (b:Nat) (c0:w.cell? ⟨b,0,none⟩=some (sv t)) :
  ∃v' w',(Builtin.append_ #[37, 37] ty #[v,.slice (some ⟨b,0,none⟩) 1 1]).run Tryz.prog w = .ok v' w'∧OwnsS w' v' (l++[t])∧w.grownBy w' v.ownBlock∧(v'.ownBlock=v.ownBlock∨v'.ownBlock=some w.heap.size):=by
 obtain⟨i0,hi,hz0,hz1,hz2⟩:=info_parts infoS
 obtain⟨v',w',r1,r2,r3,-,r5⟩:=run_append_own_at (P:=Tryz.prog) w 0 37 ty 9 i0 _ 1 16 Tryz.underlying37 hi hz0 hz1 hz2 rfl (by decide) v l.length (scs l) h ⟨b,0,none⟩ 1 1 [sv t] rfl (fun j u hu=>by
   have q:Addr.add ⟨b,0,none⟩ j=⟨b,j,none⟩:=by simp[Addr.add];intro h;exact h.symm
   rw[q]
   match j,hu with
   | 0,hu=>simp at hu;subst hu;exact c0
   | j+1,hu=>simp at hu) (scs_one [t]) (by unfold maxLen;omega) (by omega) (Nat.zero_le _)
 refine⟨v',w',r1,?_,r3,r5⟩
 unfold OwnsS
 rw[scs_app,List.length_append]
 exact r2
abbrev hc (p fr mn g:Nat) (v:Value) (tk:Nat) (m:Bs) (more:List Value):List Value:=[.pointer (some ⟨p,0,none⟩),.int .i64 (fr:Int),.int .i64 (mn:Int),.int .i64 (g:Int),v,.int .i64 (tk:Int),sv m]++more
structure Hf (w:World) (q p fr mn g:Nat) (v:Value) (ts:List Bs) (tk:Nat) (m:Bs) (more:List Value):Prop where
 bk:Blk w q (hc p fr mn g v tk m more)
 row:OwnsS w v ts
 qv:v.ownBlock≠some q
def HFt (q:Nat) (v:Value) (g:Nat):Prop:=g=q∨v.ownBlock=some g
section
variable {w:World} {q p fr mn g:Nat} {v:Value} {ts:List Bs} {tk:Nat} {m:Bs} {more:List Value}
theorem Hf.lt (h:Hf w q p fr mn g v ts tk m more) {x:Nat} (hx:HFt q v x):x < w.heap.size:=by
 rcases hx with rfl|e
 ·exact h.bk.lt
 ·exact (h.row.lt x e).2
theorem Hf.same (h:Hf w q p fr mn g v ts tk m more) {w':World} (hs:∀x,HFt q v x→w'.heap[x]?=w.heap[x]?):Hf w' q p fr mn g v ts tk m more :=
 ⟨h.bk.same (hs q (.inl rfl)),ownsRow_same h.row (fun x e=>hs x (.inr e)),h.qv⟩
theorem Hf.later (h:Hf w q p fr mn g v ts tk m more) {w':World} (hb:Below w.heap.size w w'):Hf w' q p fr mn g v ts tk m more:=h.same fun x hx=>hb.block x (h.lt hx)
theorem Hf.bf (h:Hf w q p fr mn g v ts tk m more) {F:Nat→Prop} {w':World} (hb:Bf F w w') (hF:∀x,HFt q v x→¬F x):Hf w' q p fr mn g v ts tk m more:=h.same fun x hx=>hb.block x (h.lt hx) (hF x hx)
theorem Hf.set (h:Hf w q p fr mn g v ts tk m more) (i:Nat) (u:Value) (hi:i < (hc p fr mn g v tk m more).length):Blk (w.setCell ⟨q,i,none⟩ u) q ((hc p fr mn g v tk m more).set i u)∧OwnsS (w.setCell ⟨q,i,none⟩ u) v ts :=
 ⟨h.bk.set i hi u,ownsRow_same h.row (fun x e=>Below.heap_setCell w ⟨q,i,none⟩ u x (fun c=>h.qv (by rw[e,c])))⟩
theorem Hf.setTk (h:Hf w q p fr mn g v ts tk m more) (k:Nat):Hf (w.setCell ⟨q,5,none⟩ (.int .i64 (k:Int))) q p fr mn g v ts k m more:=by
 have:=h.set 5 (.int .i64 (k:Int)) (by simp)
 exact⟨this.1,this.2,h.qv⟩
theorem Hf.setMk (h:Hf w q p fr mn g v ts tk m more) (k:Bs):Hf (w.setCell ⟨q,6,none⟩ (sv k)) q p fr mn g v ts tk k more:=by
 have:=h.set 6 (sv k) (by simp)
 exact⟨this.1,this.2,h.qv⟩
end
theorem bf_set {F:Nat→Prop} {w w':World} (h:Bf F w w') {q i:Nat} {u:Value} (hq:F q):Bf F w (w'.setCell ⟨q,i,none⟩ u):=h.trans (Nx.refl _ _) (Bf.set F w' q i u hq)
set_option maxHeartbeats 1000000 in
theorem lgoOn_any (q p fr mn g:Nat) (v:Value) (ts:List Bs) (tk:Nat) (m:Bs) (more:List Value) (w:World) (hk:Hid (Kh w)) (h:Hid (Hf w q p fr mn g v ts tk m more)) :
  Calls Tryz.prog 130 #[.pointer (some ⟨q,0,none⟩)] w fun e w'=>e = .returned (.tuple #[])∧Hf w' q p fr mn g v ts 1 (hm g) more∧Bf (fun x=>x=q) w w':=by
 have HM:Hid _:=lhm_any g w hk
 have k3:=h.out.bk.c 3 _ rfl
 have FI:Hid (∀w1,Below w.heap.size w w1→Hf ((w1.setCell ⟨q,5,none⟩ (.int .i64 ((1:Nat):Int))).setCell ⟨q,6,none⟩ (sv (hm g))) q p fr mn g v ts 1 (hm g) more∧Bf (fun x=>x=q) w ((w1.setCell ⟨q,5,none⟩ (.int .i64 ((1:Nat):Int))).setCell ⟨q,6,none⟩ (sv (hm g)))):=fun w1 hb =>
  ⟨((h.out.later hb).setTk 1).setMk (hm g),bf_set (F:=fun x=>x=q) (bf_set (F:=fun x=>x=q) (Bf.of hb) rfl) rfl⟩
 have CS:Hid (∀w1,Below w.heap.size w w1→w1.cell? ⟨q,5,none⟩=some (.int .i64 (tk:Int))∧w1.cell? ⟨q,6,none⟩=some (sv m)∧∀o,w1.frozen? ⟨q,o,none⟩=false):=fun w1 hb=>⟨(h.out.later hb).bk.c 5 _ rfl,(h.out.later hb).bk.c 6 _ rfl,(h.out.later hb).bk.f⟩
 unfold sv at *
 obtain⟨M,hM⟩:∃M,st (hm g)=M:=⟨_,rfl⟩
 rw[hM] at HM FI
 clear hM h
 go_enter Tryz.func130, Tryz.ntmps130
 go_wp2_with fail
 refine Calls.mono HM.out ?_
 rintro e w1 ⟨rfl,hb⟩
 obtain⟨k5,k6,kf⟩:=CS.out w1 hb
 have FF:Hid _:=FI.out w1 hb
 clear hb FI CS k3
 go_wp2
 go_end0
 exact⟨rfl,FF.out⟩
end Go.Proofs.YtjpaodepnacimaaGreatDoor
namespace Go.Proofs.YtjpaodepnacimaaGreatDoor
open Go.RowKit Go.Proofs.Fd Go.Proofs.Dk
set_option maxRecDepth 20000
def dc (x:Wt):List Value:=[.int .i64 (x.k:Int),sv x.b]
def dcs:List Wt→List Value
 | []=>[]
 | x::l=>dc x++dcs l
theorem dcs_app:∀l m:List Wt,dcs (l++m)=dcs l++dcs m
 | [],_=>rfl
 | t::l,m=>by rw[List.cons_append,dcs,dcs_app l m,dcs,List.append_assoc]
theorem dcs_len:∀l:List Wt,(dcs l).length=l.length*2
 | []=>rfl
 | t::l=>by rw[dcs,List.length_append,dcs_len l,List.length_cons,dc];simp;omega
theorem dcs_one:∀(l:List Wt),∀u∈dcs l,u.oneCell'=true
 | [],u,h=>by cases h
 | t::l,u,h=>by
  rw[dcs,List.mem_append] at h
  rcases h with h|h
  ·simp only[dc,List.mem_cons,List.not_mem_nil,or_false] at h
   rcases h with rfl|rfl <;> rfl
  ·exact dcs_one l u h
theorem dcs_get:∀(l:List Wt) (i:Nat) (hi:i < l.length),(dcs l)[i*2]?=some (.int .i64 (l[i].k:Int))∧(dcs l)[i*2+1]?=some (sv l[i].b)
 | [],i,hi=>absurd hi (Nat.not_lt_zero _)
 | t::l,0,_=>⟨rfl,rfl⟩
 | t::l,i+1,hi=>by
  have ih:=dcs_get l i (by simpa using hi)
  rw[show (i+1)*2=i*2+2 by omega]
  exact ih
abbrev OwnsD (w:World) (v:Value) (l:List Wt):Prop:=w.ownsRow 0 98 2 v l.length (dcs l)
theorem infoD:(Tryz.prog.info? 98).map (fun i=>(i.zero,i.size,i.bytes))=some (some (.agg #[.int .i64 0,.string ⟨#[]⟩]),2,24):=by kernel_rfl
theorem ownsD_slice {w:World} {v:Value} {l:List Wt} (h:OwnsD w v l):∃a c,v = .slice a l.length c:=by
 rcases h.2 with ⟨rfl,h2⟩|⟨g,cap,cur,rfl,-⟩
 ·exact⟨_,_,by rw[h2]⟩
 ·exact⟨_,_,rfl⟩
theorem ownsD_cells {w:World} {va:Option Addr} {n c:Nat} {l:List Wt} (h:OwnsD w (.slice va n c) l) (i:Nat) (hi:i < l.length):∃g,va=some ⟨g,0,none⟩∧(Value.slice va n c).ownBlock=some g∧w.cell? ⟨g,i*2,none⟩=some (.int .i64 (l[i].k:Int))∧w.cell? ⟨g,i*2+1,none⟩=some (sv l[i].b):=by
 rcases h.2 with ⟨h1,h2⟩|⟨g,cap,cur,h1,-⟩
 ·omega
 ·have h1':=h1
  injection h1' with e1 e2 e3
  subst e1
  subst e2
  obtain⟨a1,a2⟩:=dcs_get l i hi
  exact⟨g,rfl,rfl,by rw[h.cellAt _ (by omega),a1],by rw[h.cellAt _ (by omega),a2]⟩
structure SRow (w:World) (g n:Nat) (f:Nat→Bs):Prop where
 c:∀k,k < n→w.cell? ⟨g,k,none⟩=some (sv (f k))
 fr:∀k,w.frozen? ⟨g,k,none⟩=false
theorem SRow.same {w w':World} {g n:Nat} {f:Nat→Bs} (h:SRow w g n f) (e:w'.heap[g]?=w.heap[g]?):SRow w' g n f:=⟨fun k hk=>(World.cell?_of_block (a:=⟨g,k,none⟩) e).trans (h.c k hk),fun k=>(World.frozen?_of_block (a:=⟨g,k,none⟩) e).trans (h.fr k)⟩
theorem SRow.set {w:World} {g n:Nat} {f:Nat→Bs} (h:SRow w g n f) (k:Nat) (b:Bs):SRow (w.setCell ⟨g,k,none⟩ (sv b)) g n (upd f k b):=by
 refine⟨fun j hj => ?_,fun j=>by rw[World.frozen?_setCell];exact h.fr j⟩
 unfold upd
 split
 ·rename_i e
  subst e
  rw[World.cell?_setCell_same _ _ _ (by rw[h.c j hj])]
 ·rename_i e
  rw[World.cell?_setCell_other _ _ _ _ (fun q=>e (by injection q with q1 q2 q3;exact q2.symm)),h.c j hj]
structure DRaw (w:World) (d n:Nat) (dn:Bool) (fu:Nat) (f:Nat→Bs) (l:List Wt) (sg sc:Nat) (v:Value):Prop where
 c0:w.cell? ⟨d,0,none⟩=some (.slice (some ⟨sg,0,none⟩) n sc)
 c1:w.cell? ⟨d,1,none⟩=some v
 c2:w.cell? ⟨d,2,none⟩=some (.int .i64 (fu:Int))
 c3:w.cell? ⟨d,3,none⟩=some (.bool dn)
 c4:w.cell? ⟨d,4,none⟩=some (.int .i64 (n:Int))
 fr:∀o,w.frozen? ⟨d,o,none⟩=false
 sr:SRow w sg n f
 row:OwnsD w v l
 ds:sg≠d
 dv:v.ownBlock≠some d
 sv:v.ownBlock≠some sg
 n1:1≤n
def DFoot (d sg:Nat) (v:Value) (g:Nat):Prop:=g=d∨g=sg∨v.ownBlock=some g
section
variable {w:World} {d n:Nat} {dn:Bool} {fu:Nat} {f:Nat→Bs} {l:List Wt} {sg sc:Nat} {v:Value}
theorem DRaw.lt (h:DRaw w d n dn fu f l sg sc v) {g:Nat} (hg:DFoot d sg v g):g < w.heap.size:=by
 rcases hg with rfl|rfl|e
 ·exact World.block_lt_of_cell? _ _ h.c0
 ·exact World.block_lt_of_cell? _ _ (h.sr.c 0 h.n1)
 ·exact (h.row.lt g e).2
theorem DRaw.same (h:DRaw w d n dn fu f l sg sc v) {w':World} (hs:∀g,DFoot d sg v g→w'.heap[g]?=w.heap[g]?):DRaw w' d n dn fu f l sg sc v:=by
 have hp:w'.heap[d]?=w.heap[d]?:=hs d (.inl rfl)
 have cp:∀(o:Nat),w'.cell? ⟨d,o,none⟩=w.cell? ⟨d,o,none⟩:=fun o=>World.cell?_of_block (a:=⟨d,o,none⟩) hp
 exact⟨(cp 0).trans h.c0,(cp 1).trans h.c1,(cp 2).trans h.c2,(cp 3).trans h.c3,(cp 4).trans h.c4,fun o=>(World.frozen?_of_block (a:=⟨d,o,none⟩) hp).trans (h.fr o),h.sr.same (hs sg (.inr (.inl rfl))),
  ownsRow_same h.row (fun g e=>hs g (.inr (.inr e))),h.ds,h.dv,h.sv,h.n1⟩
theorem DRaw.later (h:DRaw w d n dn fu f l sg sc v) {w':World} (hb:Below w.heap.size w w'):DRaw w' d n dn fu f l sg sc v:=h.same fun g hg=>hb.block g (h.lt hg)
theorem DRaw.other (h:DRaw w d n dn fu f l sg sc v) {F:Nat→Prop} {w':World} (hb:Bf F w w') (hF:∀g,DFoot d sg v g→¬F g):DRaw w' d n dn fu f l sg sc v:=h.same fun g hg=>hb.block g (h.lt hg) (hF g hg)
theorem DRaw.setFuse (h:DRaw w d n dn fu f l sg sc v) (m:Nat):DRaw (w.setCell ⟨d,2,none⟩ (.int .i64 (m:Int))) d n dn m f l sg sc v:=by
 obtain⟨s0,co,bo,fo⟩:=set_lemmas w d 2 (.int .i64 (m:Int)) _ h.c2
 exact⟨co 0 _ (by decide) h.c0,co 1 _ (by decide) h.c1,s0,co 3 _ (by decide) h.c3,co 4 _ (by decide) h.c4,fun o=>(fo o).trans (h.fr o),h.sr.same (bo sg h.ds),ownsRow_same h.row (fun g e=>bo g (fun c=>h.dv (by rw[e,c]))),h.ds,h.dv,h.sv,h.n1⟩
theorem DRaw.setDown (h:DRaw w d n dn fu f l sg sc v) (b:Bool):DRaw (w.setCell ⟨d,3,none⟩ (.bool b)) d n b fu f l sg sc v:=by
 obtain⟨s0,co,bo,fo⟩:=set_lemmas w d 3 (.bool b) _ h.c3
 exact⟨co 0 _ (by decide) h.c0,co 1 _ (by decide) h.c1,co 2 _ (by decide) h.c2,s0,co 4 _ (by decide) h.c4,fun o=>(fo o).trans (h.fr o),h.sr.same (bo sg h.ds),ownsRow_same h.row (fun g e=>bo g (fun c=>h.dv (by rw[e,c]))),h.ds,h.dv,h.sv,h.n1⟩
theorem DRaw.setSafe (h:DRaw w d n dn fu f l sg sc v) (k:Nat) (b:Bs):DRaw (w.setCell ⟨sg,k,none⟩ (Go.Proofs.YtjpaodepnacimaaGreatDoor.sv b)) d n dn fu (upd f k b) l sg sc v:=by
 have bo:∀g,g≠sg→(w.setCell ⟨sg,k,none⟩ (Go.Proofs.YtjpaodepnacimaaGreatDoor.sv b)).heap[g]?=w.heap[g]?:=fun g hg=>Below.heap_setCell w ⟨sg,k,none⟩ _ g hg
 have hp:=bo d (Ne.symm h.ds)
 have cp:∀(o:Nat),(w.setCell ⟨sg,k,none⟩ (Go.Proofs.YtjpaodepnacimaaGreatDoor.sv b)).cell? ⟨d,o,none⟩=w.cell? ⟨d,o,none⟩:=fun o=>World.cell?_of_block (a:=⟨d,o,none⟩) hp
 exact⟨(cp 0).trans h.c0,(cp 1).trans h.c1,(cp 2).trans h.c2,(cp 3).trans h.c3,(cp 4).trans h.c4,fun o=>(World.frozen?_of_block (a:=⟨d,o,none⟩) hp).trans (h.fr o),h.sr.set k b,ownsRow_same h.row (fun g e=>bo g (fun c=>h.sv (by rw[e,c]))),h.ds,h.dv,h.sv,h.n1⟩
theorem DRaw.setRow (h:DRaw w d n dn fu f l sg sc v) {w1:World} (hb:Below w.heap.size w w1) {u:Value} {m:List Wt} (ho:OwnsD w1 u m) (hl:∀g,u.ownBlock=some g→w.heap.size≤g) :
  DRaw (w1.setCell ⟨d,1,none⟩ u) d n dn fu f m sg sc u∧Nx w (DFoot d sg v) (DFoot d sg u)∧Bf (DFoot d sg v) w (w1.setCell ⟨d,1,none⟩ u):=by
 have h1:=h.later hb
 have ld:=h.lt (.inl rfl)
 have ls:=h.lt (.inr (.inl rfl))
 obtain⟨s0,co,bo,fo⟩:=set_lemmas w1 d 1 u _ h1.c1
 have nd:u.ownBlock≠some d:=fun e=>by have:=hl d e;omega
 have ns:u.ownBlock≠some sg:=fun e=>by have:=hl sg e;omega
 refine⟨⟨co 0 _ (by decide) h1.c0,s0,co 2 _ (by decide) h1.c2,co 3 _ (by decide) h1.c3,co 4 _ (by decide) h1.c4,fun o=>(fo o).trans (h1.fr o),h1.sr.same (bo sg h.ds),ownsRow_same ho (fun g e=>bo g (fun c=>nd (by rw[e,c]))),h.ds,nd,ns,h.n1⟩,?_,(Bf.of hb).trans (Nx.refl _ _) (Bf.set _ w1 d 1 u (.inl rfl))⟩
 intro g hg
 rcases hg with e|e|e
 ·exact .inl (.inl e)
 ·exact .inl (.inr (.inl e))
 ·exact .inr (hl g e)
end
def DAt (w:World) (d:Nat) (G:Nat→Prop) (s:St):Prop:=Ok s∧∃sg sc v,G=DFoot d sg v∧DRaw w d s.n s.down s.fuse s.f s.l sg sc v
def DSt (w:World) (d:Nat) (G:Nat→Prop) (s:St) (w':World):Prop:=∃G',DAt w' d G' s∧Nx w G G'∧Bf G w w'
theorem DAt.lt {w:World} {d:Nat} {G:Nat→Prop} {s:St} (h:DAt w d G s) {g:Nat} (hg:G g):g < w.heap.size:=by
 obtain⟨-,sg,sc,v,rfl,hr⟩:=h
 exact hr.lt hg
theorem DAt.other {w w':World} {d:Nat} {F G:Nat→Prop} {s:St} (h:DAt w d G s) (hb:Bf F w w') (hF:∀g,G g→¬F g):DAt w' d G s:=by
 obtain⟨ho,sg,sc,v,rfl,hr⟩:=h
 exact⟨ho,sg,sc,v,rfl,hr.other hb hF⟩
theorem DAt.later {w w':World} {d:Nat} {G:Nat→Prop} {s:St} (h:DAt w d G s) (hb:Below w.heap.size w w'):DAt w' d G s:=by
 obtain⟨ho,sg,sc,v,rfl,hr⟩:=h
 exact⟨ho,sg,sc,v,rfl,hr.later hb⟩
theorem DAt.stays {w w':World} {d:Nat} {G:Nat→Prop} {s:St} (h:DAt w d G s) (hb:Below w.heap.size w w'):DSt w d G s w':=⟨G,h.later hb,Nx.refl _ _,Bf.of hb⟩
theorem rburns_any (d:Nat) (G:Nat→Prop) (s:St) (hd:s.down=false) (w:World) (h:DAt w d G s) :
  Calls Tryz.prog 97 #[.pointer (some ⟨d,0,none⟩)] w fun e w'=>e = .returned (.bool (decide (s.fuse=1)))∧DAt w' d G (brnS s)∧Bf G w w':=by
 obtain⟨ho,sg,sc,v,rfl,hr⟩:=h
 have c2:=hr.c2
 have c3:=hr.c3
 have f2:=hr.fr 2
 have f3:=hr.fr 3
 have hfu:=ho.fu
 by_cases h0:s.fuse=0
 ·have e:brnS s=s:=by
   obtain⟨n,f,l,fuse,down⟩:=s
   simp only at hd h0
   subst hd h0
   rfl
  have HR:Hid (DAt w d (DFoot d sg v) (brnS s)∧Bf (DFoot d sg v) w w):=⟨⟨ho.brn,sg,sc,v,rfl,by rw[e];exact hr⟩,Bf.refl _ _⟩
  rw[h0] at c2 ⊢
  clear hr ho h0 c3 hfu e
  go_enter Tryz.func97, Tryz.ntmps97
  go_wp2
  go_ret
  exact⟨rfl,HR.out⟩
 ·obtain⟨m,hm⟩:∃m:Nat,s.fuse=m+1:=⟨s.fuse - 1,by omega⟩
  have HR:Hid (DAt ((w.setCell ⟨d,2,none⟩ (.int .i64 (m:Int))).setCell ⟨d,3,none⟩ (.bool (decide (s.fuse=1)))) d (DFoot d sg v) (brnS s)∧Bf (DFoot d sg v) w ((w.setCell ⟨d,2,none⟩ (.int .i64 (m:Int))).setCell ⟨d,3,none⟩ (.bool (decide (s.fuse=1))))):=by
   refine⟨⟨ho.brn,sg,sc,v,rfl,?_⟩,(Bf.set _ w d 2 _ (.inl rfl)).trans (Nx.refl _ _) (Bf.set _ _ d 3 _ (.inl rfl))⟩
   have:=(hr.setFuse m).setDown (decide (s.fuse=1))
   have e:(brnS s).fuse=m:=by show s.fuse - 1=m;omega
   rw[e]
   exact this
  rw[hd] at c3
  by_cases h1:s.fuse=1
  ·obtain rfl:m=0:=by omega
   rw[h1] at c2 HR ⊢
   rw[decide_eq_true (show (1:Nat)=1 from rfl)] at HR ⊢
   clear hr ho h0 h1 hfu hm hd
   go_enter Tryz.func97, Tryz.ntmps97
   go_wp2
   go_ret
   exact⟨rfl,HR.out⟩
  ·rw[decide_eq_false h1] at HR ⊢
   rw[hm] at c2
   have z1:IntKind.i64.wrap (((m+1:Nat):Int) - 1)=(m:Int):=by rw[IntKind.wrap_i64];omega
   have z2:¬((m+1:Nat):Int)=0:=by omega
   have z3:¬(m:Int)=0:=by omega
   obtain⟨x,hx⟩:∃x:Int,((m+1:Nat):Int)=x:=⟨_,rfl⟩
   obtain⟨y,hy⟩:∃y:Int,(m:Int)=y:=⟨_,rfl⟩
   rw[hx] at c2 z1 z2
   rw[hy] at z1 z3 HR
   have z4:(y == 0)=false:=by simp[z3]
   clear hr ho h0 h1 hfu hm hx hy hd z3
   go_enter Tryz.func97, Tryz.ntmps97
   go_wp2
   go_ret
   exact⟨rfl,HR.out⟩
theorem DAt.fuse {w:World} {d:Nat} {G:Nat→Prop} {s:St} (h:DAt w d G s) {n:Int} (hd:s.down=false) (h1:¬(n < 0∨1048576 < n)):DAt (w.setCell ⟨d,2,none⟩ (.int .i64 n)) d G (fuS s n)∧Bf G w (w.setCell ⟨d,2,none⟩ (.int .i64 n)):=by
 have hk:=h.1.fus n
 obtain⟨-,sg,sc,v,rfl,hr⟩:=h
 refine⟨⟨hk,sg,sc,v,rfl,?_⟩,Bf.set _ w d 2 _ (.inl rfl)⟩
 have e:fuS s n={ s with fuse:=n.toNat }:=by
  unfold fuS
  rw[if_neg (by rw[hd];simp),if_neg h1]
 rw[e]
 have:=hr.setFuse n.toNat
 rw[Int.toNat_of_nonneg (by omega)] at this
 exact this
theorem rfuse_any (d:Nat) (G:Nat→Prop) (s:St) (n:Int) (w:World) (h:DAt w d G s) :
  Calls Tryz.prog 49 #[.pointer (some ⟨d,0,none⟩),.int .i64 n] w fun e w'=>e = .returned (.int .i64 (fuE s n))∧DSt w d G (fuS s n) w':=by
 have c3:w.cell? ⟨d,3,none⟩=some (.bool s.down):=by
  obtain⟨-,sg,sc,v,-,hr⟩:=h
  exact hr.c3
 by_cases hd:s.down=true
 ·rw[hd] at c3
  have e1:fuE s n=150:=if_pos hd
  have e2:fuS s n=s:=if_pos hd
  rw[e1,e2]
  have FF:Hid (DSt w d G s w):=h.stays (Below.refl _ _)
  clear h e1 e2 hd
  go_enter Tryz.func49, Tryz.ntmps49
  go_wp2
  go_ret
  exact⟨rfl,FF.out⟩
 ·have hd':s.down=false:=by simpa using hd
  rw[hd'] at c3
  by_cases h1:n < 0
  ·have e1:fuE s n=1:=by rw[fuE,if_neg hd,if_pos (.inl h1)]
   have e2:fuS s n=s:=by rw[fuS,if_neg hd,if_pos (.inl h1)]
   rw[e1,e2]
   have FF:Hid (DSt w d G s w):=h.stays (Below.refl _ _)
   clear h e1 e2 hd hd'
   go_enter Tryz.func49, Tryz.ntmps49
   go_wp2
   go_ret
   exact⟨rfl,FF.out⟩
  ·by_cases h2:1048576 < n
   ·have e1:fuE s n=1:=by rw[fuE,if_neg hd,if_pos (.inr h2)]
    have e2:fuS s n=s:=by rw[fuS,if_neg hd,if_pos (.inr h2)]
    rw[e1,e2]
    have FF:Hid (DSt w d G s w):=h.stays (Below.refl _ _)
    clear h e1 e2 hd hd'
    go_enter Tryz.func49, Tryz.ntmps49
    go_wp2
    go_ret
    exact⟨rfl,FF.out⟩
   ·have hc:¬(n < 0∨1048576 < n):=fun c=>by rcases c with c|c;exact h1 c;exact h2 c
    have e1:fuE s n=0:=by rw[fuE,if_neg hd,if_neg hc]
    have K:=h.fuse hd' hc
    have FF:Hid (DSt w d G (fuS s n) (w.setCell ⟨d,2,none⟩ (.int .i64 n))):=⟨G,K.1,Nx.refl _ _,K.2⟩
    have c1:∃x,w.cell? ⟨d,2,none⟩=some x∧w.frozen? ⟨d,2,none⟩=false:=by
     obtain⟨-,sg,sc,v,-,hr⟩:=h
     exact⟨_,hr.c2,hr.fr 2⟩
    obtain⟨x,c1,f1⟩:=c1
    rw[e1]
    obtain⟨t,ht⟩:∃t,fuS s n=t:=⟨_,rfl⟩
    rw[ht] at FF ⊢
    clear h e1 hd hc K ht hd'
    go_enter Tryz.func49, Tryz.ntmps49
    go_wp2
    go_ret
    exact⟨rfl,FF.out⟩
theorem lay_take {f:Nat→Bs} {l:List Wt} {i:Nat} (hi:i < l.length):lay f (l.take (i+1))=upd (lay f (l.take i)) l[i].k l[i].b:=by
 rw[List.take_succ_eq_append_getElem hi,lay_app]
set_option maxHeartbeats 1000000 in
theorem rread_any (d:Nat) (G:Nat→Prop) (s:St) (k:Int) (w:World) (h:DAt w d G s) (hl:s.l.length≤1000000) :
  Calls Tryz.prog 13 #[.pointer (some ⟨d,0,none⟩),.int .i64 k] w fun e w'=>e = .returned (.tuple #[sv (rdV s k),.int .i64 (rch s k)])∧w'=w:=by
 obtain⟨ho,sg,sc,v,-,hr⟩:=h
 have c3:=hr.c3
 have c4:=hr.c4
 by_cases hd:s.down=true
 ·have e1:rch s k=150:=if_pos hd
  have e2:rdV s k=[]:=by rw[rdV,e1,if_neg (by decide)]
  rw[e1,e2]
  rw[hd] at c3
  clear hr ho e1 e2 hd c4 hl
  go_enter Tryz.func13, Tryz.ntmps13
  go_wp2
  go_ret2
  exact⟨rfl,rfl⟩
 ·have hd':s.down=false:=by simpa using hd
  rw[hd'] at c3
  by_cases h0:k < 0
  ·have e1:rch s k=1:=by rw[rch,if_neg hd,if_pos (.inl h0)]
   have e2:rdV s k=[]:=by rw[rdV,e1,if_neg (by decide)]
   rw[e1,e2]
   clear hr ho e1 e2 hd hd' c4 hl
   go_enter Tryz.func13, Tryz.ntmps13
   go_wp2
   go_ret2
   exact⟨rfl,rfl⟩
  ·by_cases h1:(s.n:Int)≤k
   ·have e1:rch s k=1:=by rw[rch,if_neg hd,if_pos (.inr h1)]
    have e2:rdV s k=[]:=by rw[rdV,e1,if_neg (by decide)]
    rw[e1,e2]
    obtain⟨n,hn⟩:∃n,s.n=n:=⟨_,rfl⟩
    rw[hn] at c4 h1
    clear hr ho e1 e2 hd hd' hl hn
    go_enter Tryz.func13, Tryz.ntmps13
    go_wp2
    go_ret2
    exact⟨rfl,rfl⟩
   ·have e1:rch s k=0:=by rw[rch,if_neg hd,if_neg (by omega)]
    have e2:rdV s k=s.sh k.toNat:=by rw[rdV,if_pos e1]
    rw[e1,e2]
    obtain⟨m,rfl⟩:∃m:Nat,k=(m:Int):=⟨k.toNat,by omega⟩
    rw[Int.toNat_natCast]
    have hm:m < s.n:=by omega
    have c0:=hr.c0
    have c1:=hr.c1
    have cs:=hr.sr.c m hm
    obtain⟨va,vc,rfl⟩:=ownsD_slice hr.row
    have HR:Hid (OwnsD w (.slice va s.l.length vc) s.l):=hr.row
    have HQ:Hid (s.sh=lay s.f s.l):=(rfl:s.sh=lay s.f s.l)
    obtain⟨f,hf⟩:∃f,s.f=f:=⟨_,rfl⟩
    obtain⟨l,hll⟩:∃l,s.l=l:=⟨_,rfl⟩
    obtain⟨n,hn⟩:∃n,s.n=n:=⟨_,rfl⟩
    rw[hf] at cs HQ
    rw[hll] at c1 HR HQ hl
    rw[hn] at c0 c4 h1 hm
    obtain⟨q,hq⟩:∃q,l.length=q:=⟨_,rfl⟩
    have HL:Hid (l.length=q):=hq
    rw[hq] at c1 HR hl
    have hm2:(m:Int) < (n:Int):=by omega
    clear hr ho e1 e2 hd hd' hf hll hn hq h1 h0
    go_enter Tryz.func13, Tryz.ntmps13
    go_wp2_with fail
    go_loopw [6,7] (fun x i wr=>∃j:Nat,j≤q∧i = .int .i64 (j:Int)∧x=sv (lay f (l.take j) m)∧w=wr) (fun x i wr=>q - (intOf i).toNat)
    case atStart=>exact⟨0,Nat.zero_le _,rfl,rfl,rfl⟩
    case round =>
     obtain⟨j,hj,rfl,rfl,hw⟩:=hrel
     subst hw
     by_cases hjq:j < q
     ·have g1:(j:Int) < (q:Int):=by omega
      have hjl:j < l.length:=by have:=HL.out;omega
      obtain⟨g,rfl,-,x0,x1⟩:=ownsD_cells HR.out j hjl
      have LT:=lay_take (f:=f) hjl
      obtain⟨x,hx⟩:∃x,l[j]=x:=⟨_,rfl⟩
      rw[hx] at x0 x1 LT
      have LT2:Hid (lay f (l.take (j+1)) m=upd (lay f (l.take j)) x.k x.b m):=by rw[LT];exact rfl
      clear LT hx
      by_cases hxm:x.k=m
      ·have gx:(x.k:Int)=(m:Int):=by omega
       have e3:lay f (l.take (j+1)) m=x.b:=by rw[LT2.out,←hxm,upd_same]
       rw[gx] at x0
       have E3:Hid _:=e3
       clear e3 LT2 gx hxm
       go_wp2
       go_roundw
       case rel=>exact⟨j+1,by omega,by go_num,by rw[E3.out],trivial⟩
       case measure=>simp[intOf];omega
      ·have gx:¬(x.k:Int)=(m:Int):=by omega
       have E3:Hid (lay f (l.take (j+1)) m=lay f (l.take j) m):=by rw[LT2.out,upd_other _ _ (Ne.symm hxm)];exact rfl
       clear LT2 hxm
       go_wp2
       go_roundw
       case rel=>exact⟨j+1,by omega,by go_num,by rw[E3.out],trivial⟩
       case measure=>simp[intOf];omega
     ·obtain rfl:j=q:=by omega
      have E4:Hid (lay f (l.take j) m=s.sh m):=by
       rw[HQ.out,List.take_of_length_le (by have:=HL.out;omega)]
       exact rfl
      go_wp2
      go_ret2
      exact⟨by rw[←E4.out];rfl,rfl⟩
def Src (w:World) (x:Value) (l:List Wt):Prop:=(x = .slice none 0 0∧l=[])∨∃g c,x = .slice (some ⟨g,0,none⟩) l.length c∧∀j u,(dcs l)[j]?=some u→w.cell? ⟨g,j,none⟩=some u
theorem OwnsD.src {w:World} {v:Value} {l:List Wt} (h:OwnsD w v l):Src w v l:=by
 have h0:=h
 rcases h.2 with ⟨rfl,hl⟩|⟨g,cap,cur,rfl,-⟩
 ·exact .inl ⟨rfl,List.length_eq_zero_iff.1 hl⟩
 ·refine .inr ⟨g,cap,rfl,fun j u hu => ?_⟩
  have hj:j < l.length*2:=by have:=(List.getElem?_eq_some_iff.1 hu).1;rw[dcs_len] at this;exact this
  rw[h0.cellAt j hj]
  exact hu
theorem Src.later {w w':World} {x:Value} {l:List Wt} (h:Src w x l) (hb:Below w.heap.size w w'):Src w' x l:=by
 rcases h with h|⟨g,c,h1,h2⟩
 ·exact .inl h
 ·exact .inr ⟨g,c,h1,fun j u hu=>cell_later hb (h2 j u hu)⟩
theorem app_src (w:World) (ty:TypeId) (v x:Value) (l m:List Wt) (h:OwnsD w v l) (k:Src w x m) (hl:l.length+m.length≤1000001) :
  ∃va vc w',(Builtin.append_ #[41, 41] ty #[v,x]).run Tryz.prog w = .ok (.slice va (l++m).length vc) w'∧OwnsD w' (.slice va (l++m).length vc) (l++m)∧w.grownBy w' v.ownBlock∧((Value.slice va (l++m).length vc).ownBlock=v.ownBlock∨(Value.slice va (l++m).length vc).ownBlock=some w.heap.size):=by
 obtain⟨i0,hi,hz0,hz1,hz2⟩:=info_parts infoD
 rcases k with ⟨rfl,rfl⟩|⟨g,c,rfl,hc⟩
 ·obtain⟨va,vc,rfl⟩:=ownsD_slice h
  rw[List.append_nil]
  exact⟨va,vc,w,run_append_owned_none (P:=Tryz.prog) w 0 41 ty 98 i0 2 Tryz.underlying41 hi _ _ _ h,h,⟨rfl,rfl,rfl,Nat.le_refl _,fun _ _ _=>rfl⟩,.inl rfl⟩
 ·obtain ⟨v', w', r1, r2, r3, -, r5⟩ := run_append_own_at (P := Tryz.prog) w 0 41 ty 98 i0 _ 2 24 Tryz.underlying41 hi hz0 hz1 hz2 rfl (by decide) v l.length (dcs l) h ⟨g, 0, none⟩ m.length c (dcs m) (dcs_len m) (fun j u hu => by
       rw[Addr.add_mid,Nat.zero_add]
       exact hc j u hu) (dcs_one m) (by unfold maxLen;omega) (by omega) (Nat.zero_le _)
  have r2':OwnsD w' v' (l++m):=by
   unfold OwnsD
   rw[dcs_app,List.length_append]
   exact r2
  obtain⟨va,vc,rfl⟩:=ownsD_slice r2'
  exact⟨va,vc,w',r1,r2',r3,r5⟩
theorem wrote_d (W:World) (v:Value) (l:List Wt) (x:Wt) (h:OwnsD W v l) (hl:l.length≤1000000) :
  ∃va vc w1,(Builtin.append_ #[41, 41] 41 #[.slice (some ⟨W.heap.size,0,none⟩) 0 0,v]).run Tryz.prog (W.alloc (.cells #[] 98)) = .ok (.slice va l.length vc) w1
   ∧ ∃ua uc w2,(Builtin.append_ #[41, 41] 41 #[.slice va l.length vc,.slice (some ⟨w1.heap.size,0,none⟩) 1 1]).run Tryz.prog (w1.alloc (.cells #[.int .i64 (x.k:Int),sv x.b] 98)) = .ok (.slice ua (l++[x]).length uc) w2
    ∧ Hid (OwnsD w2 (.slice ua (l++[x]).length uc) (l++[x])∧Below W.heap.size W w2∧∀g,(Value.slice ua (l++[x]).length uc).ownBlock=some g→W.heap.size≤g):=by
 have b0:Below W.heap.size W (W.alloc (.cells #[] 98)):=(Below.refl _ _).alloc (Nat.le_refl _) _
 have o0:OwnsD (W.alloc (.cells #[] 98)) (.slice (some ⟨W.heap.size,0,none⟩) 0 0) []:=World.ownsRow_lit W #[] 0 (Nat.zero_le _) (Nat.zero_le _) rfl
 obtain⟨va,vc,w1,r1,r2,r3,r4⟩:=app_src _ 41 _ v [] l o0 (h.src.later b0) (by simp;omega)
 rw[List.nil_append] at r1 r2 r4
 have b1:Below W.heap.size W w1:=⟨r3.os.trans b0.os,r3.tape.trans b0.tape,r3.output.trans b0.output,Nat.le_trans b0.size r3.size,fun g hg=>(r3.block g (Nat.lt_of_lt_of_le hg b0.size) (fun e=>by injection e with e;simp only at e;omega)).trans (b0.block g hg)⟩
 have n1:∀g,(Value.slice va l.length vc).ownBlock=some g→W.heap.size≤g:=fun g e=>by
  rcases r4 with c|c
  ·rw[c] at e
   injection e with e
   simp only at e
   omega
  ·rw[c] at e
   injection e with e
   have:=b0.size
   omega
 have b2:Below w1.heap.size w1 (w1.alloc (.cells #[.int .i64 (x.k:Int),sv x.b] 98)):=(Below.refl _ _).alloc (Nat.le_refl _) _
 have r2':OwnsD (w1.alloc (.cells #[.int .i64 (x.k:Int),sv x.b] 98)) (.slice va l.length vc) l:=ownsRow_same r2 (fun g e=>b2.block g (r2.lt g e).2)
 obtain⟨ua,uc,w2,q1,q2,q3,q4⟩:=app_src _ 41 _ (.slice (some ⟨w1.heap.size,0,none⟩) 1 1) l [x] r2' (.inr ⟨w1.heap.size,1,rfl,fun j u hu=>by
  rw[World.cell?_alloc_new]
  simpa[dcs,dc] using hu⟩) (by simp;omega)
 have b3:=chain b1 b2
 refine⟨va,vc,w1,r1,ua,uc,w2,q1,q2,?_,fun g e => ?_⟩
 ·refine⟨q3.os.trans b3.os,q3.tape.trans b3.tape,q3.output.trans b3.output,Nat.le_trans b3.size q3.size,fun g hg=>(q3.block g (Nat.lt_of_lt_of_le hg b3.size) (fun e => ?_)).trans (b3.block g hg)⟩
  have:=n1 g e.symm
  omega
 ·rcases q4 with c|c
  ·rw[c] at e
   exact n1 g e
  ·rw[c] at e
   injection e with e
   have:=b3.size
   omega
theorem DAt.wrote {W:World} {d:Nat} {G:Nat→Prop} {s:St} (h:DAt W d G s) {x:Wt} {ua:Option Addr} {uc:Nat} {w2:World} (hk:Ok { s with l:=s.l++[x] }) (ho:OwnsD w2 (.slice ua (s.l++[x]).length uc) (s.l++[x])) (hb:Below W.heap.size W w2) (hn:∀g,(Value.slice ua (s.l++[x]).length uc).ownBlock=some g→W.heap.size≤g) :
  DSt W d G { s with l:=s.l++[x] } (w2.setCell ⟨d,1,none⟩ (.slice ua (s.l++[x]).length uc)):=by
 obtain⟨-,sg,sc,v,rfl,hr⟩:=h
 obtain⟨r1,r2,r3⟩:=hr.setRow hb ho hn
 exact⟨_,⟨hk,sg,sc,_,rfl,r1⟩,r2,r3⟩
set_option maxHeartbeats 1000000 in
theorem rwrite_any (d:Nat) (G:Nat→Prop) (s:St) (k:Int) (t:ByteArray) (w:World) (h:DAt w d G s) (hl:s.l.length≤1000000) :
  Calls Tryz.prog 121 #[.pointer (some ⟨d,0,none⟩),.int .i64 k,.string t] w fun e w'=>e = .returned (.int .i64 (wrE s k t.data.toList))∧DSt w d G (wrS s k t.data.toList) w':=by
 have c34:w.cell? ⟨d,3,none⟩=some (.bool s.down)∧w.cell? ⟨d,4,none⟩=some (.int .i64 (s.n:Int)):=by
  obtain⟨-,sg,sc,v,-,hr⟩:=h
  exact⟨hr.c3,hr.c4⟩
 obtain⟨c3,c4⟩:=c34
 have ts:t.data.toList.length=t.size:=by simp
 have hww:=h.1.wr k t.data.toList
 by_cases hd:s.down=true
 ·have e0:rch s k=150:=if_pos hd
  have hne:rch s k≠0:=by rw[e0];decide
  rw[(wrE_reach hne).1,(wrE_reach hne).2,e0]
  rw[hd] at c3
  have FF:Hid (DSt w d G s w):=h.stays (Below.refl _ _)
  clear h hne e0 hd ts hl c4 hww
  go_enter Tryz.func121, Tryz.ntmps121
  go_wp2
  go_ret
  exact⟨rfl,FF.out⟩
 ·have hd':s.down=false:=by simpa using hd
  rw[hd'] at c3
  by_cases h0:k < 0
  ·have e0:rch s k=1:=by rw[rch,if_neg hd,if_pos (.inl h0)]
   have hne:rch s k≠0:=by rw[e0];decide
   rw[(wrE_reach hne).1,(wrE_reach hne).2,e0]
   have FF:Hid (DSt w d G s w):=h.stays (Below.refl _ _)
   clear h hne e0 hd hd' ts hl c4 hww
   go_enter Tryz.func121, Tryz.ntmps121
   go_wp2
   go_ret
   exact⟨rfl,FF.out⟩
  ·by_cases h1:(s.n:Int)≤k
   ·have e0:rch s k=1:=by rw[rch,if_neg hd,if_pos (.inr h1)]
    have hne:rch s k≠0:=by rw[e0];decide
    rw[(wrE_reach hne).1,(wrE_reach hne).2,e0]
    have FF:Hid (DSt w d G s w):=h.stays (Below.refl _ _)
    obtain⟨n,hn⟩:∃n,s.n=n:=⟨_,rfl⟩
    rw[hn] at c4 h1
    clear h hne e0 hd hd' ts hl hn hww
    go_enter Tryz.func121, Tryz.ntmps121
    go_wp2
    go_ret
    exact⟨rfl,FF.out⟩
   ·have e0:rch s k=0:=by rw[rch,if_neg hd,if_neg (by omega)]
    by_cases h64:t.data.toList.length=64
    ·have hsz:t.size=64:=by omega
     have BN:Hid _:=rburns_any d G s hd' w h
     by_cases hf:s.fuse=1
     ·rw[(wrE_fuse e0 h64 hf).1,(wrE_fuse e0 h64 hf).2]
      rw[decide_eq_true hf] at BN
      obtain⟨n,hn⟩:∃n,s.n=n:=⟨_,rfl⟩
      rw[hn] at c4 h1
      clear h e0 hd hd' ts hl hn h64 hf hww
      go_enter Tryz.func121, Tryz.ntmps121
      go_wp2_with fail
      refine Calls.mono BN.out ?_
      rintro e w2 ⟨rfl,k1,k2⟩
      have FF:Hid (DSt w d G (brnS s) w2):=⟨G,k1,Nx.refl _ _,k2⟩
      clear k1 k2 BN
      go_wp2
      go_ret
      exact⟨rfl,FF.out⟩
     ·rw[(wrE_ok e0 h64 hf).1,(wrE_ok e0 h64 hf).2]
      rw[(wrE_ok e0 h64 hf).2] at hww
      rw[decide_eq_false hf] at BN
      obtain⟨m,rfl⟩:∃m:Nat,k=(m:Int):=⟨k.toNat,by omega⟩
      rw[Int.toNat_natCast] at hww ⊢
      have HK:Hid _:=hww
      have HL:Hid (s.l.length≤1000000):=hl
      have h1':(m:Int) < (s.n:Int):=by omega
      obtain⟨n,hn⟩:∃n,s.n=n:=⟨_,rfl⟩
      rw[hn] at c4 h1'
      have g0:¬(m:Int) < 0:=by omega
      clear h e0 hd hd' ts hl hn h64 hf hww h1 h0
      go_enter Tryz.func121, Tryz.ntmps121
      go_wp2_with fail
      refine Calls.mono BN.out ?_
      rintro e w2 ⟨rfl,k1,k2⟩
      clear BN
      have J:Hid (DAt w2 d G (brnS s)∧Bf G w w2):=⟨k1,k2⟩
      obtain⟨-,sg,sc,v,hG,hr⟩:=k1
      obtain⟨va0,vc0,rfl⟩:=ownsD_slice hr.row
      have c1:w2.cell? ⟨d,1,none⟩=some (.slice va0 s.l.length vc0):=hr.c1
      obtain⟨va,vc,w3,RA,ua,uc,w4,RB,RO⟩:=wrote_d w2 _ s.l ⟨m,t.data.toList⟩ hr.row HL.out
      have FF:Hid (DSt w d G { brnS s with l:=s.l++[⟨m,t.data.toList⟩] } (w4.setCell ⟨d,1,none⟩ (.slice ua (s.l++[(⟨m,t.data.toList⟩:Wt)]).length uc))):=by
       obtain⟨G',g1,g2,g3⟩:=DAt.wrote (s:=brnS s) (x:=⟨m,t.data.toList⟩) J.out.1 HK.out RO.out.1 RO.out.2.1 RO.out.2.2
       exact⟨G',g1,(Nx.refl w _).trans g2 J.out.2.size,J.out.2.trans (Nx.refl _ _) g3⟩
      have c1a:=cell_alloc (o := .cells #[] 98) c1
      have c5:w4.cell? ⟨d,1,none⟩=some (.slice va0 s.l.length vc0):=cell_later RO.out.2.1 c1
      have f5:w4.frozen? ⟨d,1,none⟩=false:=(frozen_kept RO.out.2.1 (hr.lt (.inl rfl))).trans (hr.fr 1)
      have RA':(Builtin.append_ #[41, 41] 41 #[.slice (some ⟨w2.heap.size,0,none⟩) 0 0,.slice va0 s.l.length vc0]).run Tryz.prog (w2.alloc (.cells #[] 98)) = .ok (.slice va s.l.length vc) w3:=RA
      have RB':(Builtin.append_ #[41, 41] 41 #[.slice va s.l.length vc,.slice (some ⟨w3.heap.size,0,none⟩) 1 1]).run Tryz.prog (w3.alloc (.cells #[.int .i64 (m:Int),.string t] 98)) = .ok (.slice ua (s.l++[(⟨m,t.data.toList⟩:Wt)]).length uc) w4:=RB
      obtain⟨L,hL⟩:∃L,s.l.length=L:=⟨_,rfl⟩
      obtain⟨L2,hL2⟩:∃L2,(s.l++[(⟨m,t.data.toList⟩:Wt)]).length=L2:=⟨_,rfl⟩
      rw[hL2] at RB' FF
      rw[hL] at RA' RB' c1a c5
      clear RO J hr k2 hG HK HL c1 RA RB hL hL2
      go_wp2_with (at_builtin;refine Go.Lib.wpList_append_run _ rfl _ _ _ _ rfl _ _ rfl rfl _ _ (by first|exact RA'|exact RB') ?_)
      go_ret
      exact⟨rfl,FF.out⟩
    ·have hsz:¬(t.size:Int)=64:=by omega
     rw[(wrE_form e0 h64).1,(wrE_form e0 h64).2]
     have FF:Hid (DSt w d G s w):=h.stays (Below.refl _ _)
     obtain⟨n,hn⟩:∃n,s.n=n:=⟨_,rfl⟩
     rw[hn] at c4 h1
     clear h e0 hd hd' ts hl hn h64 hww
     go_enter Tryz.func121, Tryz.ntmps121
     go_wp2
     go_ret
     exact⟨rfl,FF.out⟩
end Go.Proofs.YtjpaodepnacimaaGreatDoor
namespace Go.Proofs.YtjpaodepnacimaaGreatDoor
open Go.RowKit Go.Proofs.Fd Go.Proofs.Dk Go.Proofs.Lg
set_option maxRecDepth 20000
theorem rzeros_any (n:Nat) (hn:n≤1000) (w:World):Calls Tryz.prog 123 #[.int .i64 (n:Int)] w fun e w'=>e = .returned (sv (zr n))∧Below w.heap.size w w':=by
 obtain⟨W,MK,BM,BB⟩:=lmake_n n hn w
 have CV:=BM.string (cap:=n) (zr_len n)
 have HB:Hid (Below w.heap.size w W):=BB
 have hn0:(0:Int)≤(n:Int):=by omega
 clear BB BM hn
 go_enter Tryz.func123, Tryz.ntmps123
 go_wp2
 go_ret
 exact⟨rfl,HB.out⟩
theorem rmark_any (x:Bs) (hx:x.length≤1000000) (w:World):Calls Tryz.prog 82 #[sv x] w fun e w'=>e = .returned (sv (Lg.mk x))∧Below w.heap.size w w':=by
 have DG:Hid (∀w,Calls Tryz.prog 122 #[.string (st x)] w fun e w'=>e = .returned (.string (st (Hs.sha x)))∧Below w.heap.size w w'):=rDigest_any (st x) (by rw[st_size];omega)
 have HP:Hid ((st (Hs.sha x)).extract 0 16=st (Lg.mk x)):=by
  show (st (Hs.sha x)).extract 0 16=st (Lg.mk x)
  rw[st_cut,Lg.mk,List.drop_zero]
 have hs:(st (Hs.sha x)).size=32:=rfl
 obtain⟨X,hX⟩:∃X,st x=X:=⟨_,rfl⟩
 obtain⟨Y,hY⟩:∃Y,st (Hs.sha x)=Y:=⟨_,rfl⟩
 unfold sv
 rw[hX] at DG ⊢
 rw[hY] at DG HP hs
 clear hX hY hx
 go_enter Tryz.func82, Tryz.ntmps82
 go_wp2_with fail
 refine Calls.mono (DG.out _) ?_
 rintro e w1 ⟨rfl,hb⟩
 have B1:Hid _:=hb
 clear hb DG
 go_wp2
 go_ret
 exact⟨by rw[←HP.out];rfl,B1.out⟩
theorem rhalf_any (d:Nat) (G:Nat→Prop) (s:St) (w:World) (h:DAt w d G s) (hn:s.n≤1000000):Calls Tryz.prog 79 #[.pointer (some ⟨d,0,none⟩)] w fun e w'=>e = .returned (.int .i64 ((s.n / 2:Nat):Int))∧w'=w:=by
 obtain⟨-,sg,sc,v,-,hr⟩:=h
 have c4:=hr.c4
 obtain⟨n,hnn⟩:∃n,s.n=n:=⟨_,rfl⟩
 rw[hnn] at c4 hn ⊢
 obtain⟨m,hm⟩:∃m,n / 2=m:=⟨_,rfl⟩
 have e1:(n:Int) / 2=(m:Int):=by omega
 have y1:IntKind.i64.wrap (m:Int)=(m:Int):=by rw[IntKind.wrap_i64];omega
 rw[hm]
 clear hr hnn hm
 go_enter Tryz.func79, Tryz.ntmps79
 go_wp2
 go_ret
 exact⟨rfl,rfl⟩
theorem rmay_any (s:ByteArray) (w:World):Calls Tryz.prog 92 #[.string s] w fun e w'=>e = .returned (.int .i64 (may s.data.toList))∧w'=w:=by
 have hs:s.data.toList.length=s.size:=by simp
 unfold may
 rw[hs]
 by_cases h1:s.size < 1
 ·rw[if_pos h1]
  have e:s.toList=[]:=by
   rw[ByteArray.toList_eq]
   exact List.length_eq_zero_iff.1 (by rw[hs];omega)
  have e2:s.toList.isEmpty=true:=by rw[e];rfl
  go_enter Tryz.func92, Tryz.ntmps92
  go_wp2
  go_ret
  exact⟨rfl,rfl⟩
 ·rw[if_neg h1]
  have e:¬s.toList=[]:=fun c=>by
   rw[ByteArray.toList_eq] at c
   have:=congrArg List.length c
   rw[hs,List.length_nil] at this
   omega
  have e2:s.toList.isEmpty=false:=by
   cases hx:s.toList with
   | nil=>exact absurd hx e
   | cons _ _=>rfl
  by_cases h2:2000 < s.size
  ·rw[if_pos h2]
   have g2:(2000:Int) < (s.size:Int):=by omega
   go_enter Tryz.func92, Tryz.ntmps92
   go_wp2
   go_ret
   exact⟨rfl,rfl⟩
  ·rw[if_neg h2]
   have g2:¬(2000:Int) < (s.size:Int):=by omega
   go_enter Tryz.func92, Tryz.ntmps92
   go_wp2
   go_ret
   exact⟨rfl,rfl⟩
theorem rsectors_any (x:Bs) (hx:x.length≤1000000) (w:World):Calls Tryz.prog 93 #[sv x] w fun e w'=>e = .returned (.int .i64 (sn x:Int))∧w'=w:=by
 have hs:(st x).size=x.length:=st_size x
 have e1:(18+((st x).size:Int)+64 - 1) / 64=(sn x:Int):=by rw[hs];unfold sn;omega
 have hl:(st x).size≤1000000:=by omega
 obtain⟨X,hX⟩:∃X,st x=X:=⟨_,rfl⟩
 unfold sv
 rw[hX] at e1 hl ⊢
 have y1:IntKind.i64.wrap (sn x:Int)=(sn x:Int):=by rw[←e1,IntKind.wrap_i64];omega
 obtain⟨z,hz⟩:∃z,sn x=z:=⟨_,rfl⟩
 rw[hz] at e1 y1 ⊢
 clear hs hX hx hz
 go_enter Tryz.func93, Tryz.ntmps93
 go_wp2
 go_ret
 exact⟨by rw[←e1];rfl,rfl⟩
theorem bytes_new (w:World) (l:Bs) (a:Array Value) (h:a.toList=l.map fun b=>Value.int .u8 (b.toNat:Int)):BytesAt (w.alloc (.cells a 5)) w.heap.size l:=fun j hj=>by
 refine⟨?_,by simp[go_sem]⟩
 rw[World.cell?_alloc_new]
 have:a[j]?=a.toList[j]?:=by simp
 rw[this,h]
 simp[hj]
set_option maxHeartbeats 1000000 in
theorem rplain_any (g:Nat) (w:World):Calls Tryz.prog 83 #[.int .i64 (g:Int)] w fun e w'=>e = .returned (sv (hf g))∧Below w.heap.size w w':=by
 have b3:(g:Int) / 16777216 % 256=((UInt8.ofNat (g / 2 ^ 24)).toNat:Int):=by rw[UInt8.toNat_ofNat'];omega
 have b2:(g:Int) / 65536 % 256=((UInt8.ofNat (g / 2 ^ 16)).toNat:Int):=by rw[UInt8.toNat_ofNat'];omega
 have b1:(g:Int) / 256 % 256=((UInt8.ofNat (g / 2 ^ 8)).toNat:Int):=by rw[UInt8.toNat_ofNat'];omega
 have b0:(g:Int) % 256=((UInt8.ofNat g).toNat:Int):=by rw[UInt8.toNat_ofNat'];omega
 have hb4:ben g 4=[UInt8.ofNat (g / 2 ^ 24),UInt8.ofNat (g / 2 ^ 16),UInt8.ofNat (g / 2 ^ 8),UInt8.ofNat g]:=by
  simp[ben,List.range_succ]
 have HP:Hid ((⟨#[76,79,71,0]⟩:ByteArray)++st (ben g 4)=st (hf g)):=st_app [76,79,71,0] (ben g 4)
 rw[hb4] at HP
 obtain⟨c3,h3⟩:∃c,UInt8.ofNat (g / 2 ^ 24)=c:=⟨_,rfl⟩
 obtain⟨c2,h2⟩:∃c,UInt8.ofNat (g / 2 ^ 16)=c:=⟨_,rfl⟩
 obtain⟨c1,h1⟩:∃c,UInt8.ofNat (g / 2 ^ 8)=c:=⟨_,rfl⟩
 obtain⟨c0,h0⟩:∃c,UInt8.ofNat g=c:=⟨_,rfl⟩
 rw[h3] at b3 HP
 rw[h2] at b2 HP
 rw[h1] at b1 HP
 rw[h0] at b0 HP
 have CV:=(bytes_new w [c3,c2,c1,c0] #[.int .u8 (c3.toNat:Int),.int .u8 (c2.toNat:Int),.int .u8 (c1.toNat:Int),.int .u8 (c0.toNat:Int)] rfl).string (cap:=4) (n:=4) rfl
 have hy:(st [c3,c2,c1,c0]).size=4:=rfl
 clear h0 h1 h2 h3 hb4
 go_enter Tryz.func83, Tryz.ntmps83
 go_wp2
 go_ret
 exact⟨by show _=Ending.returned (.string (st (hf g)));rw[←HP.out];rfl,(Below.refl _ _).alloc (Nat.le_refl _) _⟩
end Go.Proofs.YtjpaodepnacimaaGreatDoor
