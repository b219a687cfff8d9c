/- Parts: BpH,BpI,BpJ,BpK,SnA. -/
import Derived.Test.YtjpaodepnacimaaGreatDoorZdG24
import Derived.Test.YtjpaodepnacimaaGreatDoorZdG19
namespace Go.Proofs.YtjpaodepnacimaaGreatDoor
open Go.RowKit Go.Proofs.Fd Go.Proofs.Dk Go.Proofs.Lg Go.Proofs.Bx
set_option maxRecDepth 20000
def shU (b:Bxs) (u:Nat):List Bs:=(List.range u).flatMap fun u=>(b u).map fun e=>putR u e.1 e.2
theorem shU_succ (b:Bxs) (u:Nat):shU b (u+1)=shU b u++(b u).map fun e=>putR u e.1 e.2:=by
 unfold shU
 rw[List.range_succ,List.flatMap_append]
 simp
theorem shU_all (b:Bxs):shU b 64=shX b:=rfl
theorem shU_len (b:Bxs) (u:Nat):(shU b u).length=manyX b u:=by
 induction u with
 | zero=>rfl
 | succ u ih=>rw[shU_succ,List.length_append,ih,List.length_map,manyX]
theorem manyX_mono (b:Bxs) {u v:Nat} (h:u≤v):manyX b u≤manyX b v:=by
 induction v with
 | zero =>
  obtain rfl:u=0:=by omega
  exact Nat.le_refl _
 | succ v ih =>
  by_cases e:u=v+1
  ·subst e;exact Nat.le_refl _
  ·rw[manyX];have:=ih (by omega);omega
theorem app_str1 (base:Nat) (W:World) (ty:TypeId) (v:Value) (L:List Bs) (h:W.ownsRow base 9 1 v L.length (scs L)) (hb:base≤W.heap.size) (hl:L.length≤1000000) (t:Bs) :
  ∃v' W2,(Builtin.append_ #[37, 37] ty #[v,.slice (some ⟨W.heap.size,0,none⟩) 1 1]).run Tryz.prog (W.alloc (.cells #[.string (st t)] 9)) = .ok v' W2∧W2.ownsRow base 9 1 v' (L++[t]).length (scs (L++[t]))∧Below base W W2:=by
 obtain⟨i0,hi,hz0,hz1,hz2⟩:=info_parts infoS
 have hown:(W.alloc (.cells #[.string (st t)] 9)).ownsRow base 9 1 v L.length (scs L):=h.alloc _
 obtain⟨v',w',r1,r2,r3,-,-⟩:=run_append_own_at (P:=Tryz.prog) (W.alloc (.cells #[.string (st t)] 9)) base 37 ty 9 i0 _ 1 16 Tryz.underlying37 hi hz0 hz1 hz2 rfl (by decide) v L.length (scs L) hown ⟨W.heap.size,0,none⟩ 1 1 (scs [t]) rfl (fun j u hj=>by
  have hj':j < 1:=by
   have:=(List.getElem?_eq_some_iff.1 hj).1
   simpa[scs] using this
  obtain rfl:j=0:=by omega
  rw[Addr.add_mid,World.cell?_alloc_new]
  exact hj) (scs_one _) (by unfold maxLen;omega) (by omega) (by simp;omega)
 refine⟨v',w',r1,?_,?_⟩
 ·rw[scs_app,List.length_append]
  exact r2
 ·exact ((Below.refl base W).alloc hb _).grown r3 (by simp;omega) (fun q hq=>(hown.lt q hq).1)
set_option maxHeartbeats 4000000 in
theorem xshort_any (K:Nat→Prop) (w:World) (S:Nat) (vs:List Value) (b:Bxs) (gb:Gx b) (hm:manyX b 64≤50000) (h:Hid (Shl K w S vs b)) :
  Calls Tryz.prog 72 #[.pointer (some ⟨S,0,none⟩)] w fun e w'=>∃a c,e = .returned (.slice a (shX b).length c)∧TxAt w' a (shX b)∧(∀x,a=some x→w.heap.size≤x.block)∧Below w.heap.size w w':=by
 have BX:Hid (∀u,u < 64→∃a n c,Hid (∀W,Below w.heap.size w W→SlAt W a (b u))∧(b u).length=n∧n≤50000∧∀W,Below w.heap.size w W→W.cell? ⟨S,u,none⟩=some (.slice a n c)):=fun u hu=>by
  obtain⟨a,n,c,e,s,-⟩:=h.out.bv.bx u hu
  refine⟨a,n,c,fun W hb=>s.at_.later hb,s.len,?_,fun W hb=>cell_later hb (h.out.bk.c u _ e)⟩
  have:=manyX_at 64 b u hu
  have:=s.len
  omega
 have PT:Hid (∀(u:Nat) (e:Sl) (W:World),u < 64→e∈b u→Calls Tryz.prog 42 #[.int .i64 (u:Int),.string (st e.1),.string (st e.2)] W fun e' w'=>e' = .returned (.string (st (putR u e.1 e.2)))∧Below W.heap.size W w'):=fun u e W hu he=>xput_any u hu e.1 e.2 (okI_len (gb.i u e he).1) (gb.i u e he).2 W
 have AP:Hid (∀(W:World) (v:Value) (L:List Bs) (t:Bs),W.ownsRow w.heap.size 9 1 v L.length (scs L)→w.heap.size≤W.heap.size→L.length≤1000000→_):=fun W v L t h1 h2 h3=>app_str1 w.heap.size W 37 v L h1 h2 h3 t
 have LN:Hid (∀u,u≤64→(shU b u).length≤50000):=fun u hu=>by rw[shU_len];exact Nat.le_trans (manyX_mono b hu) hm
 have FIN:Hid (∀(W:World) (v:Value),W.ownsRow w.heap.size 9 1 v (shU b 64).length (scs (shU b 64))→Below w.heap.size w W→∃a c,v = .slice a (shX b).length c∧Hid (TxAt W a (shX b)∧(∀x,a=some x→w.heap.size≤x.block)∧Below w.heap.size w W)):=fun W v o hb=>by
  rw[shU_all] at o
  obtain⟨a,c,e,t,-⟩:=owns_tx rfl o
  refine⟨a,c,e,t,fun x hx => ?_,hb⟩
  have:=o.lt x.block (by rw[e,hx];rfl)
  exact this.1
 have MK:Hid (∀u k (hk:k < (b u).length),(((b u).take (k+1)).map fun e=>putR u e.1 e.2)=(((b u).take k).map fun e=>putR u e.1 e.2)++[putR u (b u)[k].1 (b u)[k].2]):=fun u k hk=>by rw[List.take_succ_eq_append_getElem hk,List.map_append];rfl
 clear h hm gb
 go_enter Tryz.func72, Tryz.ntmps72
 go_wp2_with fail
 go_loopw [3,10] (fun sl i wr=>∃u:Nat,u≤64∧i = .int .i64 (u:Int)∧Hid (wr.ownsRow w.heap.size 9 1 sl (shU b u).length (scs (shU b u))∧Below w.heap.size w wr)) (fun _ i _=>64 - (intOf i).toNat)
 case atStart=>exact⟨0,by omega,rfl,World.ownsRow_nil _ _ _ _,Below.refl _ _⟩
 case round =>
  obtain⟨u,hu,rfl,I⟩:=hrel
  by_cases hlt:u < 64
  ·have g1:(u:Int) < 64:=by omega
   have g0:(0:Int)≤(u:Int):=by omega
   obtain⟨a,n,c,SA,hn,hnb,cu⟩:=BX.out u hlt
   have HN:Hid ((b u).length=n):=hn
   have cu1:=cu wr I.out.2
   have I1:Hid (wr.drew.ownsRow w.heap.size 9 1 u3 (shU b u).length (scs (shU b u))∧Below w.heap.size w wr.drew):=⟨I.out.1,I.out.2.drew⟩
   clear hn I cu
   go_wp2_with fail
   go_region_held3 (fun w'=>w'.cell? ⟨S,u,none⟩=some (.slice a n c)) (first|exact cu1|assumption) (fail)
   clear cu1
   go_wp2_with fail
   go_loopw [3,18] (fun sl i wx=>∃k:Nat,k≤n∧i = .int .i64 (k:Int)∧Hid (wx.ownsRow w.heap.size 9 1 sl (shU b u++((b u).take k).map fun e=>putR u e.1 e.2).length (scs (shU b u++((b u).take k).map fun e=>putR u e.1 e.2))∧Below w.heap.size w wx)) (fun _ i _=>n - (intOf i).toNat)
   case atStart=>exact⟨0,by omega,rfl,⟨by rw[List.take_zero,List.map_nil,List.append_nil];exact I1.out.1,I1.out.2⟩⟩
   case round =>
    obtain⟨k,hk,rfl,J⟩:=hrel
    clear I1
    by_cases hkn:k < n
    ·have hkl:k < (b u).length:=by rw[HN.out];exact hkn
     have g2:(k:Int) < (n:Int):=by omega
     obtain⟨b1,o1,rfl,c0,c1⟩:=(SA.out _ J.out.2) k hkl
     have nb1:=nb wr (.cells #[.string (st (b u)[k].1),.string (st (b u)[k].2)] 58)
     have P1:Hid _:=PT.out u (b u)[k] (wr.alloc (.cells #[.string (st (b u)[k].1),.string (st (b u)[k].2)] 58)) hlt (List.getElem_mem hkl)
     have M1:=MK.out u k hkl
     have L1:(shU b u++((b u).take k).map fun e=>putR u e.1 e.2).length≤1000000:=by
      rw[List.length_append,List.length_map,List.length_take]
      have:=LN.out u (by omega)
      omega
     have A1:Hid (∀W,Below (wr.alloc (.cells #[.string (st (b u)[k].1),.string (st (b u)[k].2)] 58)).heap.size (wr.alloc (.cells #[.string (st (b u)[k].1),.string (st (b u)[k].2)] 58)) W→∃v' W2,(Builtin.append_ #[37, 37] 37 #[u3,.slice (some ⟨W.heap.size,0,none⟩) 1 1]).run Tryz.prog (W.alloc (.cells #[.string (st (putR u (b u)[k].1 (b u)[k].2))] 9)) = .ok v' W2∧Hid (W2.ownsRow w.heap.size 9 1 v' (shU b u++((b u).take (k+1)).map fun e=>putR u e.1 e.2).length (scs (shU b u++((b u).take (k+1)).map fun e=>putR u e.1 e.2))∧Below w.heap.size w W2)):=fun W hb=>by
      have hbw:=chain nb1 hb
      have ow:=owns_laterS J.out.1 hbw
      have s1:=J.out.2.size
      have s2:=hbw.size
      obtain⟨v',W2,r1,r2,r3⟩:=AP.out W u3 _ (putR u (b u)[k].1 (b u)[k].2) ow (by omega) L1
      refine⟨v',W2,r1,?_,(chain J.out.2 hbw).trans r3⟩
      rw[M1,←List.append_assoc]
      exact r2
     unfold sv at c0 c1
     obtain⟨X1,hX1⟩:∃X,st (b u)[k].1=X:=⟨_,rfl⟩
     obtain⟨X2,hX2⟩:∃X,st (b u)[k].2=X:=⟨_,rfl⟩
     obtain⟨X3,hX3⟩:∃X,st (putR u (b u)[k].1 (b u)[k].2)=X:=⟨_,rfl⟩
     rw[hX1] at c0
     rw[hX2] at c1
     rw[hX1,hX2,hX3] at P1 A1
     clear hX1 hX2 hX3 J M1 L1 nb1
     go_wp2_with fail
     refine Calls.mono P1.out ?_
     rintro e w4 ⟨rfl,hb4⟩
     obtain⟨v',W5,r1,F5⟩:=A1.out _ hb4
     have R1:Hid _:=r1
     clear P1 A1 hb4 r1 c0 c1
     go_wp2_with (at_builtin;refine Go.Lib.wpList_append_run _ rfl _ _ _ _ rfl _ _ rfl rfl _ _ R1.out ?_)
     go_roundw
     case rel=>exact⟨k+1,by omega,by go_num,F5.out⟩
     case measure=>simp[intOf];omega
    ·obtain rfl:k=n:=by omega
     have J2:Hid (wr.ownsRow w.heap.size 9 1 u3 (shU b (u+1)).length (scs (shU b (u+1)))∧Below w.heap.size w wr):=by
      rw[shU_succ]
      have:=J.out
      rw[List.take_of_length_le (by rw[HN.out];exact Nat.le_refl _)] at this
      exact this
     clear J
     go_wp2
     go_roundw
     case rel=>exact⟨u+1,by omega,by go_num,J2.out⟩
     case measure=>simp[intOf];omega
  ·obtain rfl:u=64:=by omega
   obtain⟨a,c,rfl,F5⟩:=FIN.out _ _ I.out.1 I.out.2
   clear I FIN
   go_wp2
   go_ret
   exact⟨a,c,rfl,F5.out⟩
def LF (vs:List Value) (z:Nat):Prop:=∃(u:Nat) (a:Option Addr) (n c:Nat) (x:Addr),vs[u]?=some (.slice a n c)∧a=some x∧0 < n∧z=x.block
theorem Bvs.own {K:Nat→Prop} {w:World} {vs:List Value} {b:Bxs} (h:Bvs K w vs b):Bvs (LF vs) w vs b:=⟨h.ln,fun u hu=>by
 obtain⟨a,n,c,e,s,-⟩:=h.bx u hu
 exact⟨a,n,c,e,s,fun x ex h0=>⟨u,a,n,c,x,e,ex,h0,rfl⟩⟩⟩
theorem Bvs.lf {K:Nat→Prop} {w:World} {vs:List Value} {b:Bxs} (h:Bvs K w vs b) {z:Nat} (hz:LF vs z):K z∧z < w.heap.size:=by
 obtain⟨u,a,n,c,x,e,ex,h0,rfl⟩:=hz
 have hu:u < 64:=by
  have:=(List.getElem?_eq_some_iff.1 e).1
  rw[h.ln] at this
  exact this
 obtain⟨a',n',c',e',s,k⟩:=h.bx u hu
 rw[e] at e'
 obtain⟨rfl,rfl,rfl⟩:a=a'∧n=n'∧c=c':=by
  have:=Option.some.inj e'
  injection this with h1 h2 h3
  exact⟨h1,h2,h3⟩
 exact⟨k x ex h0,s.at_.lt x ex (by rw[s.len];exact h0)⟩
abbrev bxc (q:Nat) (vs:List Value) (quota:Nat):List Value := .pointer (some ⟨q,0,none⟩)::(vs++[.int .i64 (quota:Int)])
def FB (F:Nat→Prop) (q:Nat) (v:Value) (b:Nat) (vs:List Value) (z:Nat):Prop:=FH F q v z∨z=b∨LF vs z
structure Py (w wr:World) (p:Nat) (F:Nat→Prop) (s:St) (q:Nat) (v:Value) (x:Lo) (b quota:Nat) (vs:List Value) (bx:Bxs):Prop where
 lz:Lz w wr p F s q v x
 bk:Blk wr b (bxc q vs quota)
 bv:Bvs (LF vs) wr vs bx
 ap:∀z,LF vs z→¬FH F q v z∧z≠b∧w.heap.size≤z
 nb:¬FH F q v b∧w.heap.size≤b
def PyP (w w0:World) (F0:Nat→Prop) (p q b quota:Nat) (s:St) (x:Lo) (bx:Bxs) (w':World):Prop:=∃F v vs,Py w w' p F s q v x b quota vs bx∧Nx w0 F0 (FB F q v b vs)∧Bf F0 w0 w'
section
variable {w w0:World} {F0:Nat→Prop} {p q b quota:Nat} {s:St} {x:Lo} {bx:Bxs} {w1:World}
theorem Py.later {F:Nat→Prop} {v:Value} {vs:List Value} (k:Py w w1 p F s q v x b quota vs bx) {w2:World} (hb:Below w1.heap.size w1 w2):Py w w2 p F s q v x b quota vs bx:=⟨k.lz.later hb,k.bk.later hb,k.bv.later hb,k.ap,k.nb⟩
theorem Py.lt {F:Nat→Prop} {v:Value} {vs:List Value} (k:Py w w1 p F s q v x b quota vs bx) {z:Nat} (hz:FB F q v b vs z):z < w1.heap.size∧w.heap.size≤z:=by
 rcases hz with c|c|c
 ·exact k.lz.fh c
 ·rw[c];exact⟨k.bk.lt,k.nb.2⟩
 ·exact⟨(k.bv.lf c).2,(k.ap z c).2.2⟩
theorem PyP.later (k:PyP w w0 F0 p q b quota s x bx w1) {w2:World} (hb:Below w1.heap.size w1 w2):PyP w w0 F0 p q b quota s x bx w2:=by
 obtain⟨F,v,vs,z,n,f⟩:=k
 exact⟨F,v,vs,z.later hb,n,f.later hb⟩
theorem PyP.trans {F1:Nat→Prop} {w2:World} (k:PyP w w1 F1 p q b quota s x bx w2) (hn:Nx w0 F0 F1) (hf:Bf F0 w0 w1):PyP w w0 F0 p q b quota s x bx w2:=by
 obtain⟨F,v,vs,z,n,f⟩:=k
 exact⟨F,v,vs,z,hn.trans n hf.size,hf.trans hn f⟩
theorem Py.start {F:Nat→Prop} {v:Value} {vs:List Value} (k:Py w w1 p F s q v x b quota vs bx):PyP w w1 (FB F q v b vs) p q b quota s x bx w1:=⟨F,v,vs,k,Nx.refl _ _,Bf.refl _ _⟩
theorem Py.log {F:Nat→Prop} {v:Value} {vs:List Value} (k:Py w w1 p F s q v x b quota vs bx) {w2:World} {s':St} {x':Lo} (z:LzP w w1 p F q v s' x' w2) (hn:Nx w0 F0 (FB F q v b vs)) (hf:Bf F0 w0 w1):PyP w w0 F0 p q b quota s' x' bx w2:=by
 obtain⟨F',v',r,n1,f⟩:=z
 have nq:=n1.fh
 have hs:=hf.size
 refine⟨F',v',vs,⟨r,k.bk.bf f k.nb.1,k.bv.bf f (fun g hg=>(k.ap g hg).1),fun g hg=>⟨nq.apart (k.ap g hg).1 (k.bv.lf hg).2,(k.ap g hg).2⟩,nq.apart k.nb.1 k.bk.lt,k.nb.2⟩,fun g hg => ?_,hf.trans hn (f.wide fun g e => .inl e)⟩
 rcases hg with e|e
 ·rcases nq g e with c|c
  ·exact hn g (.inl c)
  ·exact .inr (by omega)
 ·exact hn g (.inr e)
theorem Blk.put_mid {w:World} {b q:Nat} {vs:List Value} {quota:Nat} (h:Blk w b (bxc q vs quota)) (us:List Value) (hl:us.length=vs.length):Blk (w.setCells b 1 us) b (bxc q us quota):=by
 have ht:∀i,i < us.length→(w.cell? ⟨b,1+i,none⟩).isSome=true:=fun i hi=>by
  have:=(h.there (1+i) (by simp;omega)).1
  rw[Nat.zero_add] at this
  exact this
 refine⟨fun j u hj => ?_,fun o => ?_,by simp⟩
 ·rw[Nat.zero_add]
  by_cases h0:j=0
  ·subst h0
   rw[World.cell?_setCells_out b us 1 w _ (fun _ _ => .inl (by show 0 < 1;decide))]
   have:=h.c 0 _ rfl
   rw[this]
   exact hj
  ·by_cases h1:j - 1 < us.length
   ·have e:j=1+(j - 1):=by omega
    rw[e,World.cell?_setCells_in b us 1 w ht (j - 1) h1]
    rw[e,Nat.add_comm 1,List.getElem?_cons_succ,List.getElem?_append_left h1,List.getElem?_eq_getElem h1] at hj
    exact hj
   ·rw[World.cell?_setCells_out b us 1 w _ (fun _ _ => .inr (by show 1+us.length≤j;omega))]
    refine h.c j u ?_
    rw[←hj]
    have e:j=(j - 1)+1:=by omega
    rw[e,List.getElem?_cons_succ,List.getElem?_cons_succ,List.getElem?_append_right (by omega),List.getElem?_append_right (by omega),hl]
 ·rw[frozen_setCells]
  exact h.f o
theorem Py.set {F:Nat→Prop} {v:Value} {vs us:List Value} {K:Nat→Prop} {c:Bxs} (k:Py w w1 p F s q v x b quota vs bx) (hv:Bvs K w1 us c) (hK:∀z,K z→z < w1.heap.size→(LF vs z∨w0.heap.size≤z)∧¬FH F q v z∧z≠b∧w.heap.size≤z) (hn:Nx w0 F0 (FB F q v b vs)) (hf:Bf F0 w0 w1):PyP w w0 F0 p q b quota s x c (w1.setCells b 1 us):=by
 have bf:Bf (fun z=>z=b) w1 (w1.setCells b 1 us):=Bf.sets (fun z=>z=b) b rfl us 1 w1
 have hu:us.length=vs.length:=by rw[hv.ln,k.bv.ln]
 have own:=hv.own
 have hz:∀z,LF us z→(LF vs z∨w0.heap.size≤z)∧¬FH F q v z∧z≠b∧w.heap.size≤z:=fun z c=>by
  obtain⟨k1,k2⟩:=hv.lf c
  exact hK z k1 k2
 refine⟨F,v,us,⟨k.lz.other bf (fun g hg e=>k.nb.1 (by rw[←e];exact hg)) (fun g e=>by rw[e];exact k.nb.2),k.bk.put_mid us hu,own.bf bf (fun g hg e=>(hz g hg).2.2.1 e),fun g hg=>(hz g hg).2,k.nb⟩,fun g hg => ?_,hf.trans hn (bf.wide fun g e => .inr (.inl e))⟩
 rcases hg with e|e|e
 ·exact hn g (.inl e)
 ·exact hn g (.inr (.inl e))
 ·rcases (hz g e).1 with c|c
  ·exact hn g (.inr (.inr c))
  ·exact .inr c
end
def PyL (w w1:World) (F:Nat→Prop) (v:Value) (p q b quota:Nat) (vs:List Value) (s:St) (x:Lo) (bx:Bxs) (w':World):Prop:=∃F' v',Py w w' p F' s q v' x b quota vs bx∧Nx w1 (FH F q v) (FH F' q v')∧Bf (FH F q v) w1 w'
theorem Py.log1 {w w1:World} {p q b quota:Nat} {s:St} {x:Lo} {bx:Bxs} {F:Nat→Prop} {v:Value} {vs:List Value} (k:Py w w1 p F s q v x b quota vs bx) {w2:World} {s':St} {x':Lo} (z:LzP w w1 p F q v s' x' w2):PyL w w1 F v p q b quota vs s' x' bx w2:=by
 obtain⟨F',v',r,n1,f⟩:=z
 have nq:=n1.fh
 exact⟨F',v',⟨r,k.bk.bf f k.nb.1,k.bv.bf f (fun g hg=>(k.ap g hg).1),fun g hg=>⟨nq.apart (k.ap g hg).1 (k.bv.lf hg).2,(k.ap g hg).2⟩,nq.apart k.nb.1 k.bk.lt,k.nb.2⟩,nq,f⟩
theorem PyL.trans {w w1 w2 w3:World} {p q b quota:Nat} {s:St} {x:Lo} {bx:Bxs} {F F1:Nat→Prop} {v v1:Value} {vs:List Value} (k:PyL w w2 F1 v1 p q b quota vs s x bx w3) (n:Nx w1 (FH F q v) (FH F1 q v1)) (f:Bf (FH F q v) w1 w2):PyL w w1 F v p q b quota vs s x bx w3:=by
 obtain⟨F',v',z,n2,f2⟩:=k
 exact⟨F',v',z,n.trans n2 f.size,f.trans n f2⟩
theorem PyL.later {w w1 w2 w3:World} {p q b quota:Nat} {s:St} {x:Lo} {bx:Bxs} {F:Nat→Prop} {v:Value} {vs:List Value} (k:PyL w w1 F v p q b quota vs s x bx w2) (hb:Below w2.heap.size w2 w3):PyL w w1 F v p q b quota vs s x bx w3:=by
 obtain⟨F',v',z,n2,f2⟩:=k
 exact⟨F',v',z.later hb,n2,f2.later hb⟩
theorem apX_kp (s:St) (x:Lo) (r:Bs):(app s x r).1.2.l.length≤s.l.length+40:=(app_len s x r).1
set_option maxHeartbeats 4000000 in
theorem xappend_any (w:World) (p q b quota:Nat) (s:St) (x:Lo) (bx:Bxs) (F:Nat→Prop) (v:Value) (vs:List Value) (a:Option Addr) (n c:Nat) (rs:List Bs) (hn:rs.length=n) (hnb:n≤1000) (hl:s.l.length+50000≤1000000) (hk:Hid (Kh w)) (w1:World) (k:Hid (Py w w1 p F s q v x b quota vs bx)) (tx:Hid (TxAt w1 a rs)) (hap:Hid (∀y,a=some y→0 < rs.length→y.block < w1.heap.size∧¬FH F q v y.block)) :
  Calls Tryz.prog 70 #[.pointer (some ⟨b,0,none⟩),.slice a n c] w1 fun e w'=>e = .returned (.int .i64 (apX s x rs).1.1)∧PyL w w1 F v p q b quota vs (apX s x rs).1.2 (apX s x rs).2 bx w':=by
 have HN:Hid (rs.length=n):=hn
 have CL:Hid (∀W s x bx,PyL w w1 F v p q b quota vs s x bx W→W.cell? ⟨b,0,none⟩=some (.pointer (some ⟨q,0,none⟩))∧Hid (TxAt W a rs)):=fun W s x bx ⟨F',v',z,n,f⟩=>⟨z.bk.c 0 _ rfl,fun i hi=>by
  obtain⟨y,o,e,cc⟩:=tx.out i hi
  exact⟨y,o,e,f.cell cc (hap.out _ e (by omega)).2⟩⟩
 have AP:Hid (∀W s x (r:Bs),s.l.length+100≤1000000→PyL w w1 F v p q b quota vs s x bx W→Calls Tryz.prog 52 #[.pointer (some ⟨q,0,none⟩),.string (st r)] W fun e w'=>e = .returned (.int .i64 (app s x r).1.1)∧Hid (PyL w w1 F v p q b quota vs (app s x r).1.2 (app s x r).2 bx w')):=fun W s x r hl ⟨F',v',z,n,f⟩ =>
  (lzappend_any w W p F' s q v' x (st r) hl hk.out z.lz).mono fun _ _ ⟨e1,e2⟩=>⟨e1,(z.log1 e2).trans n f⟩
 obtain⟨R,hR⟩:∃R,apX s x rs=R:=⟨_,rfl⟩
 have I0:Hid (apX s x rs=R∧PyL w w1 F v p q b quota vs s x bx w1∧s.l.length≤s.l.length+40*0):=⟨hR,⟨F,v,k.out,Nx.refl _ _,Bf.refl _ _⟩,by omega⟩
 rw[hR]
 clear hn k tx hap hR
 obtain⟨N0,hN0⟩:∃N,s.l.length=N:=⟨_,rfl⟩
 rw[hN0] at hl
 have I1:Hid (∃s' x',apX s' x' (rs.drop 0)=R∧PyL w w1 F v p q b quota vs s' x' bx w1∧s'.l.length≤N0+40*0):=⟨s,x,I0.out.1,I0.out.2.1,by omega⟩
 clear I0 hN0
 go_enter Tryz.func70, Tryz.ntmps70
 go_wp2_with fail
 go_loopw [10] (fun i wr=>∃k:Nat,k≤n∧i = .int .i64 (k:Int)∧Hid (∃s' x',apX s' x' (rs.drop k)=R∧PyL w w1 F v p q b quota vs s' x' bx wr∧s'.l.length≤N0+40*k)) (fun i _=>n - (intOf i).toNat)
 case atStart=>exact⟨0,Nat.zero_le _,rfl,I1.out⟩
 case round =>
  obtain⟨k,hk1,rfl,I⟩:=hrel
  clear I1
  obtain⟨s',x',e1,py,sl⟩:=I.out
  by_cases hlt:k < n
  ·have hkl:k < rs.length:=by rw[HN.out];exact hlt
   have g1:(k:Int) < (n:Int):=by omega
   obtain⟨c0,TX⟩:=CL.out _ _ _ _ py
   obtain⟨b1,o1,rfl,c1⟩:=TX.out k hkl
   rw[List.drop_eq_getElem_cons hkl,apX] at e1
   have A1:Hid _:=AP.out wr s' x' rs[k] (by omega) py
   have hkp:=apX_kp s' x' rs[k]
   unfold sv at c1
   obtain⟨X,hX⟩:∃X,st rs[k]=X:=⟨_,rfl⟩
   rw[hX] at c1 A1
   by_cases h0:(app s' x' rs[k]).1.1=0
   ·rw[if_pos h0] at e1
    rw[h0] at A1
    have E1:Hid _:=e1
    have KP:Hid _:=hkp
    have SL:Hid _:=sl
    clear e1 hX TX I py hkp sl h0
    go_wp2_with fail
    refine Calls.mono A1.out ?_
    rintro e w5 ⟨rfl,H5⟩
    clear A1 c0 c1
    go_wp2
    go_roundw
    case rel=>exact⟨k+1,by omega,by go_num,_,_,E1.out,H5.out,by have:=KP.out;have:=SL.out;omega⟩
    case measure=>simp[intOf];omega
   ·rw[if_neg h0] at e1
    have E1:Hid _:=e1
    obtain⟨z,hz⟩:∃z,(app s' x' rs[k]).1.1=z:=⟨_,rfl⟩
    rw[hz] at A1 h0
    have EZ:Hid (z=R.1.1):=by rw[←e1,hz];rfl
    clear e1 hX TX I py hkp sl hz
    go_wp2_with fail
    refine Calls.mono A1.out ?_
    rintro e w5 ⟨rfl,H5⟩
    clear A1 c0 c1
    go_wp2
    go_ret
    refine⟨by rw[←EZ.out];rfl,?_⟩
    rw[←E1.out]
    exact H5.out
  ·obtain rfl:k=n:=by omega
   have g1:¬(k:Int) < (k:Int):=by omega
   rw[List.drop_of_length_le (by rw[HN.out];exact Nat.le_refl _),apX] at e1
   have FF:Hid ((0:Int)=R.1.1∧PyL w w1 F v p q b quota vs R.1.2 R.2 bx wr):=by rw[←e1];exact⟨rfl,py⟩
   clear e1 I py sl
   go_wp2
   go_ret
   exact⟨by rw[←FF.out.1];rfl,FF.out.2⟩
theorem storen_sh {us:List Value} (w:World) (hl:us.length=64) (h1:∀v∈us,v.oneCell'=true):(Instr.storeAt 86 (.pointer (some ⟨w.heap.size,0,none⟩)) (.agg us.toArray)).run Tryz.prog (w.alloc (.cells zsh.toArray 86)) = .ok () (w.alloc (.cells us.toArray 86)) :=
 run_storeAt_new w _ _ _ (by rw[List.size_toArray,hl];exact sizeSh) (by rw[List.size_toArray,List.size_toArray,hl,zsh_len]) (by simpa using h1)
theorem Blk.mid {w:World} {b q:Nat} {vs:List Value} {quota:Nat} (h:Blk w b (bxc q vs quota)):w.rangeAt b 1 vs∧w.there b 1 vs.length:=by
 constructor
 ·intro j u hj
  have:=h.c (1+j) u (by
   have hl:=(List.getElem?_eq_some_iff.1 hj).1
   rw[Nat.add_comm,List.getElem?_cons_succ,List.getElem?_append_left hl]
   exact hj)
  exact this
 ·intro j hj
  have:=h.there (1+j) (by simp;omega)
  rw[Nat.zero_add] at this
  exact this
set_option maxHeartbeats 8000000 in
theorem xwrite_any (w:World) (p q b quota:Nat) (s:St) (x:Lo) (bx c:Bxs) (F:Nat→Prop) (v:Value) (vs:List Value) (a:Option Addr) (n cc:Nat) (rs:List Bs) (hn:rs.length=n) (hnb:n≤300) (hr:∀r∈rs,1≤r.length∧r.length≤2000) (htk:tksX bx rs=some c) (hbl:∀v,(bx v).length≤40000) (gc:Gx c) (hm:manyX c 64≤50000) (hl:s.l.length+60000≤1000000) (hk:Hid (Kh w)) (w1:World) (k:Hid (Py w w1 p F s q v x b quota vs bx)) (tx:Hid (TxAt w1 a rs)) (hap:Hid (∀y,a=some y→0 < rs.length→y.block < w1.heap.size∧¬FH F q v y.block)) :
  Calls Tryz.prog 41 #[.pointer (some ⟨b,0,none⟩),.slice a n cc] w1 fun e w'=>e = .returned (.int .i64 (wrX s x bx c rs).1.1.1)∧PyP w w1 (FB F q v b vs) p q b quota (wrX s x bx c rs).1.1.2 (wrX s x bx c rs).1.2 (wrX s x bx c rs).2 w':=by
 have hln:=k.out.bv.ln
 have LD:Hid _:=load_sh k.out.bk.mid.1 hln
 have hsz:∀z,FH F q v z→z < w1.heap.size:=fun z hz=>(k.out.lz.fh hz).1
 have BH:Hid (Calls Tryz.prog 36 #[.agg vs.toArray,.slice a n cc] w1 fun e W0=>∃us,e = .returned (.tuple #[.agg us.toArray,.bool true])∧Bvs (fun z=>LF vs z∨w1.heap.size≤z) W0 us c∧Below w1.heap.size w1 W0):=by
  have:=xbehind_any (fun z=>LF vs z∨w1.heap.size≤z) w1 vs bx a n cc rs hn (by omega) hr (fun u=>by have:=hbl u;omega) (fun z hz => .inr hz) (k.out.bv.imp (fun z hz _ => .inl hz)) tx
  rw[htk] at this
  exact this
 have CC:Hid (∀(F:Nat→Prop) (v:Value) (W1 W:World) s x,PyL w W1 F v p q b quota vs s x bx W→W.cell? ⟨b,0,none⟩=some (.pointer (some ⟨q,0,none⟩))):=fun F v W1 W s x ⟨F',v',z,_,_⟩=>z.bk.c 0 _ rfl
 have NEXT:Hid (∀(W0:World) (us:List Value),Bvs (fun z=>LF vs z∨w1.heap.size≤z) W0 us c→Below w1.heap.size w1 W0 →
   Hid (Calls Tryz.prog 70 #[.pointer (some ⟨b,0,none⟩),.slice a n cc] (W0.alloc (.cells us.toArray 86)) fun e w'=>e = .returned (.int .i64 (apX s x rs).1.1)∧Hid (PyL w (W0.alloc (.cells us.toArray 86)) F v p q b quota vs (apX s x rs).1.2 (apX s x rs).2 bx w'))
   ∧ Hid (∀W s' x',PyL w (W0.alloc (.cells us.toArray 86)) F v p q b quota vs s' x' bx W→(Instr.loadAt 86 (.pointer (some ⟨W0.heap.size,0,none⟩))).run Tryz.prog W = .ok (.agg us.toArray) W∧(Instr.storeAt 86 (.pointer (some ⟨b,1,none⟩)) (.agg us.toArray)).run Tryz.prog W = .ok () (W.setCells b 1 us)∧Hid (PyP w w1 (FB F q v b vs) p q b quota s' x' c (W.setCells b 1 us)))
   ∧ Hid (∀W s' x',PyL w (W0.alloc (.cells us.toArray 86)) F v p q b quota vs s' x' bx W→PyP w w1 (FB F q v b vs) p q b quota s' x' bx W∧Hid (Calls Tryz.prog 72 #[.pointer (some ⟨W0.heap.size,0,none⟩)] W fun e w'=>∃a c',e = .returned (.slice a (shX c).length c')∧w'.cell? ⟨b,0,none⟩=some (.pointer (some ⟨q,0,none⟩))∧Hid (TxAt w' a (shX c)∧(∀x,a=some x→W.heap.size≤x.block)∧Below W.heap.size W w')))):=fun W0 us hus hb0=>by
  have nb1:=nb W0 (.cells us.toArray 86)
  have hb2:=chain hb0 nb1
  have hs0:=hb0.size
  have une:us≠[]:=fun e=>by have:=hus.ln;rw[e] at this;simp at this
  have py2:=k.out.later hb2
  have s2:(W0.alloc (.cells us.toArray 86)).heap.size=W0.heap.size+1:=by simp
  have shl:Shl (fun z=>(LF vs z∨w1.heap.size≤z)∧z < W0.heap.size) (W0.alloc (.cells us.toArray 86)) W0.heap.size us c:=⟨Blk.new W0 us _ une,(hus.imp (fun z hz hlt=>⟨hz,hlt⟩)).later nb1,fun z=>Nat.lt_irrefl _ z.2⟩
  have kf:∀z,(LF vs z∨w1.heap.size≤z)∧z < W0.heap.size→¬FH F q v z:=fun z hz c=>by
   rcases hz.1 with e|e
   ·exact (k.out.ap z e).1 c
   ·have:=hsz z c;omega
  have shW:∀W s' x',PyL w (W0.alloc (.cells us.toArray 86)) F v p q b quota vs s' x' bx W→Shl (fun z=>(LF vs z∨w1.heap.size≤z)∧z < W0.heap.size) W W0.heap.size us c:=fun W s' x' ⟨F',v',z,n2,f⟩ =>
   ⟨shl.bk.bf f (fun e=>by have:=hsz _ e;omega),shl.bv.bf f kf,shl.ks⟩
  have hnF:∀{F':Nat→Prop} {v':Value},Nx (W0.alloc (.cells us.toArray 86)) (FH F q v) (FH F' q v')→Nx w1 (FB F q v b vs) (FB F' q v' b vs):=fun n2 z hz=>by
   rcases hz with e|e
   ·rcases n2 z e with e|e
    ·exact .inl (.inl e)
    ·exact .inr (by omega)
   ·exact .inl (.inr e)
  have hfF:∀{W:World},Bf (FH F q v) (W0.alloc (.cells us.toArray 86)) W→Bf (FB F q v b vs) w1 W:=fun f=>(Bf.of hb2).trans (Nx.refl _ _) (f.wide fun z e => .inl e)
  refine⟨?_,fun W s' x' z => ?_,fun W s' x' z=>⟨?_,?_⟩⟩
  ·exact (xappend_any w p q b quota s x bx F v vs a n cc rs hn (by omega) (by omega) hk _ py2 (tx.out.later hb2) (fun y e h0=>⟨Nat.lt_of_lt_of_le (hap.out y e h0).1 hb2.size,(hap.out y e h0).2⟩)).mono fun _ _ ⟨e1,e2⟩=>⟨e1,e2⟩
  ·have sh:=shW W s' x' z
   obtain⟨F',v',py,n2,f⟩:=z
   have hu:us.length=vs.length:=by rw[hus.ln,hln]
   refine⟨load_sh sh.bk.r hus.ln,store_sh (by have:=py.bk.mid.2;rw[hln] at this;exact this) hus.ln hus.one,?_⟩
   refine py.set sh.bv (fun g hg _=>⟨hg.1,fun e => ?_,?_,?_⟩) (hnF n2) (hfF f)
   ·rcases n2 g e with e|e
    ·exact kf g hg e
    ·have:=hg.2;omega
   ·intro e
    rcases hg.1 with c1|c1
    ·exact (k.out.ap g c1).2.1 e
    ·have:=k.out.bk.lt;omega
   ·rcases hg.1 with c1|c1
    ·exact (k.out.ap g c1).2.2
    ·have:=k.out.lz.hd_.dl.below.size;omega
  ·obtain⟨F',v',py,n2,f⟩:=z
   exact⟨F',v',vs,py,hnF n2,hfF f⟩
  ·have sh:=shW W s' x' z
   obtain⟨F',v',py,n2,f⟩:=z
   exact (xshort_any _ W W0.heap.size us c gc hm sh).mono fun _ w' ⟨a,c',e1,e2,e3,e4⟩=>⟨a,c',e1,(py.bk.later e4).c 0 _ rfl,e2,e3,e4⟩
 have SY:Hid (∀(W2 W:World) s x,s.l.length≤1000000→PyL w W2 F v p q b quota vs s x bx W→Calls Tryz.prog 54 #[.pointer (some ⟨q,0,none⟩)] W fun e w'=>e = .returned (.int .i64 (syE s))∧Hid (PyL w W2 F v p q b quota vs (syS s) x bx w')):=fun W2 W s x hl ⟨F',v',z,n,f⟩ =>
  (lzsync_any w W p F' s q v' x hl z.lz).mono fun _ _ ⟨e1,e2⟩=>⟨e1,(z.log1 e2).trans n f⟩
 have CP:Hid (∀(W2 W W4:World) s x a' c',s.l.length+4000≤1000000→PyL w W2 F v p q b quota vs s x bx W→Below W.heap.size W W4→TxAt W4 a' (shX c)→(∀y,a'=some y→W.heap.size≤y.block)→Calls Tryz.prog 71 #[.pointer (some ⟨q,0,none⟩),.slice a' (shX c).length c'] W4 fun e w'=>e = .returned (.int .i64 (cmp s x (shX c)).1.1)∧w'.cell? ⟨b,0,none⟩=some (.pointer (some ⟨q,0,none⟩))∧Hid (PyL w W2 F v p q b quota vs (cmp s x (shX c)).1.2 (cmp s x (shX c)).2 bx w')):=fun W2 W W4 s x a' c' hl ⟨F',v',z,n,f⟩ hb tx hnew=>by
  have z4:=z.later hb
  refine (lzcompact_any w W4 p F' s q v' x a' _ c' (shX c) rfl (by rw[shX_len];omega) hl hk.out z4.lz tx (fun y e _ cc => ?_)).mono ?_
  ·have:=hnew y e
   have:=z.lz.hd_.dl.at_.lt cc
   omega
  ·rintro e w' ⟨e1,e2⟩
   have zz:=z4.log1 e2
   exact⟨e1,by obtain⟨F'',v'',g,_,_⟩:=zz;exact g.bk.c 0 _ rfl,zz.trans n (f.later hb)⟩
 have kap:=kp_apX rs s x k.out.lz.h1
 have hal:(apX s x rs).1.2.l.length+4000≤1000000:=by have:=kap.1.l;omega
 have EW:Hid (wrX s x bx c rs=if (apX s x rs).1.1=151 then (cmp (apX s x rs).1.2 (apX s x rs).2 (shX c),if (cmp (apX s x rs).1.2 (apX s x rs).2 (shX c)).1.1=0 then c else bx) else if (apX s x rs).1.1≠0 then (apX s x rs,bx) else (((syE (apX s x rs).1.2,syS (apX s x rs).1.2),(apX s x rs).2),if syE (apX s x rs).1.2=0 then c else bx)):=rfl
 obtain⟨R,hR⟩:∃R,wrX s x bx c rs=R:=⟨_,rfl⟩
 rw[hR] at EW
 rw[hR]
 obtain⟨⟨⟨ya,sa⟩,xa⟩,hA⟩:∃A,apX s x rs=A:=⟨_,rfl⟩
 rw[hA] at NEXT EW hal
 have EW2:Hid (R=if ya=151 then (cmp sa xa (shX c),if (cmp sa xa (shX c)).1.1=0 then c else bx) else if ya≠0 then (((ya,sa),xa),bx) else (((syE sa,syS sa),xa),if syE sa=0 then c else bx)):=EW.out
 have NX2:Hid _:=NEXT.out
 obtain⟨N,hN⟩:∃N,(shX c).length=N:=⟨_,rfl⟩
 rw[hN] at NEXT CP
 clear k tx hap hR hA hN EW hln hsz hn hr htk hbl gc hm hl hk kap NX2
 by_cases h151:ya=151
 ·have EW3:=EW2.out
  rw[if_pos h151] at EW3
  obtain⟨⟨⟨yc,sc⟩,xc⟩,hcx⟩:∃z,cmp sa xa (shX c)=z:=⟨_,rfl⟩
  have C2:Hid _:=fun W2 W W4 a' c' hp hb tx hnew=>CP.out W2 W W4 sa xa a' c' hal hp hb tx hnew
  rw[hcx] at EW3 C2
  clear CP SY hcx EW2
  subst h151
  go_enter Tryz.func41, Tryz.ntmps41
  go_upto_region 1 with fail
  refine wp_region_lit ?_
  refine wpList_plain rfl (fun K2 hK2 => ?_)
  go_simp
  refine hK2 _ _ ?_
  clear hK2 K2
  refine wpList_plain rfl (fun K2 hK2 => ?_)
  go_simp
  refine hK2 _ _ ?_
  clear hK2 K2
  refine wpList_plain rfl (fun K2 hK2 => ?_)
  go_simp
  refine hK2 _ _ ?_
  clear hK2 K2
  refine wpList_plain rfl (fun K2 hK2=>wp_load_run _ _ rfl _ rfl _ LD.out (hK2 _ _ ?_))
  refine wpList_plain rfl (fun K2 hK2 => ?_)
  go_simp
  refine hK2 _ _ ?_
  clear hK2 K2
  refine wpList_plain rfl (fun K2 hK2 => ?_)
  go_simp
  refine Calls.mono BH.out ?_
  rintro e W0 ⟨us,rfl,hus,hb0⟩
  refine hK2 _ _ ?_
  clear hK2 K2
  refine wpList_plain rfl (fun K2 hK2 => ?_)
  go_simp
  refine hK2 _ _ ?_
  clear hK2 K2
  refine wpList_plain rfl (fun K2 hK2 => ?_)
  go_simp
  refine hK2 _ _ ?_
  clear hK2 K2
  refine wpList_plain rfl (fun K2 hK2 => ?_)
  go_simp
  refine hK2 _ _ ?_
  clear hK2 K2
  refine wpList_plain rfl (fun K2 hK2=>wp_alloc_run _ rfl _ _ (alloc_sh _) (hK2 _ _ ?_))
  refine wpList_plain rfl (fun K2 hK2=>wp_store_run _ _ _ rfl _ rfl _ rfl _ (storen_sh _ hus.ln hus.one) (hK2 _ _ ?_))
  refine wpList_plain rfl (fun K2 hK2 => ?_)
  go_simp
  refine hK2 _ _ ?_
  clear hK2 K2
  refine wpList_nil ?_
  try simp only[Act.put,wA,wB,wC]
  obtain⟨A1,FN,SO⟩:=NEXT.out W0 us hus hb0
  obtain⟨C,hC⟩:∃C,W0.heap.size=C:=⟨_,rfl⟩
  obtain⟨W2,hW2⟩:∃W,W0.alloc (.cells us.toArray 86)=W:=⟨_,rfl⟩
  rw[hW2] at A1 FN SO
  rw[hC] at FN SO
  rw[hC,hW2]
  clear LD BH NEXT hus hb0 hC hW2
  go_wp2_with fail
  refine Calls.mono A1.out ?_
  rintro e w3 ⟨rfl,H3⟩
  have c3:=CC.out _ _ _ _ _ _ H3.out
  clear A1
  have H3d:Hid _:=PyL.later H3.out ((Below.refl _ w3).drew)
  obtain⟨-,S3⟩:=SO.out _ _ _ H3d.out
  have SX:Hid _:=fun W s' x' z=>(SO.out W s' x' z).1
  have C3:Hid _:=fun W4 a' c' hb tx hnew=>C2.out W2 w3.drew W4 a' c' H3d.out hb tx hnew
  clear SO C2 H3
  go_wp2_with fail
  go_region_held3 (fun w'=>w'.cell? ⟨b,0,none⟩=some (.pointer (some ⟨q,0,none⟩))) (first|exact c3|assumption) (first|(go_at_call 72;refine Calls.mono S3.out ?_;rintro e w4 ⟨a4,c4,rfl,hc4,H4⟩)|(go_at_call 71;refine Calls.mono (C3.out _ _ _ H4.out.2.2 H4.out.1 H4.out.2.1) ?_;rintro e w5 ⟨rfl,hc5,H5⟩))
  clear S3 C3 H4 hc4 c3
  by_cases h0:yc=0
  ·rw[if_pos h0] at EW3
   subst h0
   have ER:Hid _:=EW3
   clear EW3 SX
   obtain⟨L1,S1,F1⟩:=FN.out _ _ _ H5.out
   have L2:Hid _:=L1
   have S2:Hid _:=S1
   have F2:Hid _:=F1.out
   clear FN F1 L1 S1
   go_upto_region 10 with fail
   refine wp_region_lit ?_
   refine wpList_plain rfl (fun K2 hK2 => ?_)
   go_simp
   refine hK2 _ _ ?_
   clear hK2 K2
   refine wpList_plain rfl (fun K2 hK2=>wp_load_run _ _ rfl _ rfl _ L2.out (hK2 _ _ ?_))
   refine wpList_plain rfl (fun K2 hK2 => ?_)
   go_simp
   refine hK2 _ _ ?_
   clear hK2 K2
   refine wpList_plain rfl (fun K2 hK2 => ?_)
   go_simp
   refine hK2 _ _ ?_
   clear hK2 K2
   refine wpList_plain rfl (fun K2 hK2=>wp_store_run _ _ _ rfl _ rfl _ rfl _ S2.out (hK2 _ _ ?_))
   refine wpList_nil ?_
   obtain⟨W9,hW9⟩:∃W,w5.setCells b 1 us=W:=⟨_,rfl⟩
   rw[hW9] at F2 ⊢
   clear S2 L2 hW9
   go_wp2
   go_ret
   exact⟨by rw[ER.out];rfl,by rw[ER.out];exact F2.out⟩
  ·rw[if_neg h0] at EW3
   have ER:Hid _:=EW3
   have F2:Hid _:=SX.out _ _ _ H5.out
   clear EW3 FN H5 SX
   go_wp2
   go_ret
   exact⟨by rw[ER.out];rfl,by rw[ER.out];exact F2.out⟩
 ·have EW3:=EW2.out
  rw[if_neg h151] at EW3
  by_cases ha0:ya=0
  ·rw[if_neg (by rw[ha0];simp)] at EW3
   have S2a:Hid _:=fun W2 W hp=>SY.out W2 W sa xa (by have:=hal;simp only at this;omega) hp
   obtain⟨yc,hyc⟩:∃z,syE sa=z:=⟨_,rfl⟩
   obtain⟨sc,hsc⟩:∃z,syS sa=z:=⟨_,rfl⟩
   rw[hyc,hsc] at EW3 S2a
   clear CP SY hyc hsc EW2 h151
   subst ha0
   go_enter Tryz.func41, Tryz.ntmps41
   go_upto_region 1 with fail
   refine wp_region_lit ?_
   refine wpList_plain rfl (fun K2 hK2 => ?_)
   go_simp
   refine hK2 _ _ ?_
   clear hK2 K2
   refine wpList_plain rfl (fun K2 hK2 => ?_)
   go_simp
   refine hK2 _ _ ?_
   clear hK2 K2
   refine wpList_plain rfl (fun K2 hK2 => ?_)
   go_simp
   refine hK2 _ _ ?_
   clear hK2 K2
   refine wpList_plain rfl (fun K2 hK2=>wp_load_run _ _ rfl _ rfl _ LD.out (hK2 _ _ ?_))
   refine wpList_plain rfl (fun K2 hK2 => ?_)
   go_simp
   refine hK2 _ _ ?_
   clear hK2 K2
   refine wpList_plain rfl (fun K2 hK2 => ?_)
   go_simp
   refine Calls.mono BH.out ?_
   rintro e W0 ⟨us,rfl,hus,hb0⟩
   refine hK2 _ _ ?_
   clear hK2 K2
   refine wpList_plain rfl (fun K2 hK2 => ?_)
   go_simp
   refine hK2 _ _ ?_
   clear hK2 K2
   refine wpList_plain rfl (fun K2 hK2 => ?_)
   go_simp
   refine hK2 _ _ ?_
   clear hK2 K2
   refine wpList_plain rfl (fun K2 hK2 => ?_)
   go_simp
   refine hK2 _ _ ?_
   clear hK2 K2
   refine wpList_plain rfl (fun K2 hK2=>wp_alloc_run _ rfl _ _ (alloc_sh _) (hK2 _ _ ?_))
   refine wpList_plain rfl (fun K2 hK2=>wp_store_run _ _ _ rfl _ rfl _ rfl _ (storen_sh _ hus.ln hus.one) (hK2 _ _ ?_))
   refine wpList_plain rfl (fun K2 hK2 => ?_)
   go_simp
   refine hK2 _ _ ?_
   clear hK2 K2
   refine wpList_nil ?_
   try simp only[Act.put,wA,wB,wC]
   obtain⟨A1,FN,SO⟩:=NEXT.out W0 us hus hb0
   obtain⟨C,hC⟩:∃C,W0.heap.size=C:=⟨_,rfl⟩
   obtain⟨W2,hW2⟩:∃W,W0.alloc (.cells us.toArray 86)=W:=⟨_,rfl⟩
   rw[hW2] at A1 FN SO
   rw[hC] at FN SO
   rw[hC,hW2]
   clear LD BH NEXT hus hb0 hC hW2
   go_wp2_with fail
   refine Calls.mono A1.out ?_
   rintro e w3 ⟨rfl,H3⟩
   have c3:=CC.out _ _ _ _ _ _ H3.out
   clear A1
   have S3:Hid _:=S2a.out _ _ H3.out
   have SX:Hid _:=fun W s' x' z=>(SO.out W s' x' z).1
   clear S2a H3 SO
   go_wp2_with fail
   refine Calls.mono S3.out ?_
   rintro e w5 ⟨rfl,H5⟩
   have hc5:=CC.out _ _ _ _ _ _ H5.out
   clear S3 c3
   by_cases h0:yc=0
   ·rw[if_pos h0] at EW3
    subst h0
    have ER:Hid _:=EW3
    clear EW3 SX
    obtain⟨L1,S1,F1⟩:=FN.out _ _ _ H5.out
    have L2:Hid _:=L1
    have S2:Hid _:=S1
    have F2:Hid _:=F1.out
    clear FN F1 L1 S1
    go_upto_region 10 with fail
    refine wp_region_lit ?_
    refine wpList_plain rfl (fun K2 hK2 => ?_)
    go_simp
    refine hK2 _ _ ?_
    clear hK2 K2
    refine wpList_plain rfl (fun K2 hK2=>wp_load_run _ _ rfl _ rfl _ L2.out (hK2 _ _ ?_))
    refine wpList_plain rfl (fun K2 hK2 => ?_)
    go_simp
    refine hK2 _ _ ?_
    clear hK2 K2
    refine wpList_plain rfl (fun K2 hK2 => ?_)
    go_simp
    refine hK2 _ _ ?_
    clear hK2 K2
    refine wpList_plain rfl (fun K2 hK2=>wp_store_run _ _ _ rfl _ rfl _ rfl _ S2.out (hK2 _ _ ?_))
    refine wpList_nil ?_
    obtain⟨W9,hW9⟩:∃W,w5.setCells b 1 us=W:=⟨_,rfl⟩
    rw[hW9] at F2 ⊢
    clear S2 L2 hW9
    go_wp2
    go_ret
    exact⟨by rw[ER.out];rfl,by rw[ER.out];exact F2.out⟩
   ·rw[if_neg h0] at EW3
    have ER:Hid _:=EW3
    have F2:Hid _:=SX.out _ _ _ H5.out
    clear EW3 FN H5 SX
    go_wp2
    go_ret
    exact⟨by rw[ER.out];rfl,by rw[ER.out];exact F2.out⟩
  ·rw[if_pos ha0] at EW3
   have ER:Hid _:=EW3
   clear CP SY EW2 EW3
   go_enter Tryz.func41, Tryz.ntmps41
   go_upto_region 1 with fail
   refine wp_region_lit ?_
   refine wpList_plain rfl (fun K2 hK2 => ?_)
   go_simp
   refine hK2 _ _ ?_
   clear hK2 K2
   refine wpList_plain rfl (fun K2 hK2 => ?_)
   go_simp
   refine hK2 _ _ ?_
   clear hK2 K2
   refine wpList_plain rfl (fun K2 hK2 => ?_)
   go_simp
   refine hK2 _ _ ?_
   clear hK2 K2
   refine wpList_plain rfl (fun K2 hK2=>wp_load_run _ _ rfl _ rfl _ LD.out (hK2 _ _ ?_))
   refine wpList_plain rfl (fun K2 hK2 => ?_)
   go_simp
   refine hK2 _ _ ?_
   clear hK2 K2
   refine wpList_plain rfl (fun K2 hK2 => ?_)
   go_simp
   refine Calls.mono BH.out ?_
   rintro e W0 ⟨us,rfl,hus,hb0⟩
   refine hK2 _ _ ?_
   clear hK2 K2
   refine wpList_plain rfl (fun K2 hK2 => ?_)
   go_simp
   refine hK2 _ _ ?_
   clear hK2 K2
   refine wpList_plain rfl (fun K2 hK2 => ?_)
   go_simp
   refine hK2 _ _ ?_
   clear hK2 K2
   refine wpList_plain rfl (fun K2 hK2 => ?_)
   go_simp
   refine hK2 _ _ ?_
   clear hK2 K2
   refine wpList_plain rfl (fun K2 hK2=>wp_alloc_run _ rfl _ _ (alloc_sh _) (hK2 _ _ ?_))
   refine wpList_plain rfl (fun K2 hK2=>wp_store_run _ _ _ rfl _ rfl _ rfl _ (storen_sh _ hus.ln hus.one) (hK2 _ _ ?_))
   refine wpList_plain rfl (fun K2 hK2 => ?_)
   go_simp
   refine hK2 _ _ ?_
   clear hK2 K2
   refine wpList_nil ?_
   try simp only[Act.put,wA,wB,wC]
   obtain⟨A1,FN,SO⟩:=NEXT.out W0 us hus hb0
   obtain⟨C,hC⟩:∃C,W0.heap.size=C:=⟨_,rfl⟩
   obtain⟨W2,hW2⟩:∃W,W0.alloc (.cells us.toArray 86)=W:=⟨_,rfl⟩
   rw[hW2] at A1 FN SO
   rw[hC] at FN SO
   rw[hC,hW2]
   clear LD BH NEXT hus hb0 hC hW2
   go_wp2_with fail
   refine Calls.mono A1.out ?_
   rintro e w3 ⟨rfl,H3⟩
   have c3:=CC.out _ _ _ _ _ _ H3.out
   clear A1
   have F2:Hid _:=(SO.out _ _ _ H3.out).1
   clear FN H3 SO
   go_wp2
   go_ret
   exact⟨by rw[ER.out];rfl,by rw[ER.out];exact F2.out⟩
def lnX (bx:Bxs) (u:Int):Nat:=if noU u=true then 0 else (bx u.toNat).length
theorem noU_nat {u:Int} (h:noU u=false):∃n:Nat,u=(n:Int)∧n < 64:=by
 unfold noU at h
 simp at h
 exact⟨u.toNat,by omega,by omega⟩
theorem Py.cell {w wr:World} {p:Nat} {F:Nat→Prop} {s:St} {q:Nat} {v:Value} {x:Lo} {b quota:Nat} {vs:List Value} {bx:Bxs} (k:Py w wr p F s q v x b quota vs bx) {u:Nat} (hu:u < 64):∃a n c,wr.cell? ⟨b,1+u,none⟩=some (.slice a n c)∧Sli wr a n c (bx u):=by
 obtain⟨a,n,c,e,sl,-⟩:=k.bv.bx u hu
 exact⟨a,n,c,k.bk.mid.1 u _ e,sl⟩
theorem Py.quo {w wr:World} {p:Nat} {F:Nat→Prop} {s:St} {q:Nat} {v:Value} {x:Lo} {b quota:Nat} {vs:List Value} {bx:Bxs} (k:Py w wr p F s q v x b quota vs bx):wr.cell? ⟨b,65,none⟩=some (.int .i64 (quota:Int)):=by
 refine k.bk.c 65 _ ?_
 rw[List.getElem?_cons_succ,List.getElem?_append_right (by rw[k.bv.ln];decide),k.bv.ln]
 rfl
theorem xlen_any (w wr:World) (p:Nat) (F:Nat→Prop) (s:St) (q:Nat) (v:Value) (x:Lo) (b quota:Nat) (vs:List Value) (bx:Bxs) (u:Int) (k:Hid (Py w wr p F s q v x b quota vs bx)) :
  Calls Tryz.prog 10 #[.pointer (some ⟨b,0,none⟩),.int .i64 u] wr fun e w'=>e = .returned (.int .i64 (lnX bx u:Int))∧w'=wr:=by
 have US:Hid _:=xuser_any u wr
 unfold lnX
 cases hU:noU u with
 | true =>
  rw[hU] at US
  rw[if_pos rfl]
  clear k hU
  go_enter Tryz.func10, Tryz.ntmps10
  go_wp2_with fail
  refine Calls.mono US.out ?_
  rintro e w1 ⟨rfl,rfl⟩
  clear US
  go_wp2
  go_ret
  exact⟨rfl,rfl⟩
 | false =>
  obtain⟨n,rfl,hn⟩:=noU_nat hU
  rw[hU] at US
  rw[if_neg (by simp),Int.toNat_natCast]
  obtain⟨a,m,c,cu,sl⟩:=k.out.cell hn
  have EL:Hid ((bx n).length=m):=sl.len
  have g0:(0:Int)≤(n:Int):=by omega
  have g64:(n:Int) < 64:=by omega
  clear k hU sl
  go_enter Tryz.func10, Tryz.ntmps10
  go_wp2_with fail
  refine Calls.mono US.out ?_
  rintro e w1 ⟨rfl,rfl⟩
  clear US
  go_wp2
  go_ret
  exact⟨by rw[EL.out];rfl,rfl⟩
set_option maxHeartbeats 4000000 in
theorem xputB_any (w:World) (p q b quota:Nat) (s:St) (x:Lo) (bx:Bxs) (F:Nat→Prop) (v:Value) (vs:List Value) (u:Int) (X T:ByteArray) (gb:Gx bx) (hm:manyX bx 64≤30000) (hl:s.l.length+60000≤1000000) (hk:Hid (Kh w)) (w1:World) (k:Hid (Py w w1 p F s q v x b quota vs bx)) :
  Calls Tryz.prog 21 #[.pointer (some ⟨b,0,none⟩),.int .i64 u,.string X,.string T] w1 fun e w'=>e = .returned (.int .i64 (puX quota s x bx u X.data.toList T.data.toList).1.1.1)∧PyP w w1 (FB F q v b vs) p q b quota (puX quota s x bx u X.data.toList T.data.toList).1.1.2 (puX quota s x bx u X.data.toList T.data.toList).1.2 (puX quota s x bx u X.data.toList T.data.toList).2 w':=by
 have US:Hid _:=xuser_any u w1
 have ID:Hid _:=xid_any X w1
 have TX:Hid (∀W,_):=fun W=>xtext_any T W
 have STAY:Hid (∀W,Below w1.heap.size w1 W→PyP w w1 (FB F q v b vs) p q b quota s x bx W):=fun W hb=>k.out.start.later hb
 have hTl:T.data.toList.length=T.size:=by simp
 obtain⟨R,hR⟩:∃R,puX quota s x bx u X.data.toList T.data.toList=R:=⟨_,rfl⟩
 have HR:Hid (puX quota s x bx u X.data.toList T.data.toList=R):=hR
 rw[hR]
 unfold puX at hR
 cases hU:noU u with
 | true =>
  rw[if_pos hU] at hR
  rw[hU] at US
  have FF:Hid _:=STAY.out w1 (Below.refl _ _)
  have ER:Hid _:=hR
  clear hR HR k hU STAY TX ID hTl
  go_enter Tryz.func21, Tryz.ntmps21
  go_wp2_with fail
  refine Calls.mono US.out ?_
  rintro e w2 ⟨rfl,rfl⟩
  clear US
  go_wp2
  go_ret
  exact⟨by rw[←ER.out];rfl,by rw[←ER.out];exact FF.out⟩
 | false =>
  rw[if_neg (by rw[hU];simp)] at hR
  rw[hU] at US
  cases hI:okI X.data.toList with
  | false =>
   rw[if_pos hI] at hR
   rw[hI] at ID
   have ER:Hid _:=hR
   clear hR HR k hU hI TX hTl
   go_enter Tryz.func21, Tryz.ntmps21
   go_wp2_with fail
   refine Calls.mono US.out ?_
   rintro e w2 ⟨rfl,rfl⟩
   clear US
   go_wp2_with fail
   refine Calls.mono ID.out ?_
   rintro e w3 ⟨rfl,hb3⟩
   have FF:Hid _:=STAY.out _ hb3
   clear ID STAY hb3
   go_wp2
   go_ret
   exact⟨by rw[←ER.out];rfl,by rw[←ER.out];exact FF.out⟩
  | true =>
   rw[if_neg (by rw[hI];simp),hTl] at hR
   rw[hI] at ID
   by_cases hT:T.size≤222
   ·rw[if_neg (by omega)] at hR
    rw[decide_eq_true hT] at TX
    obtain⟨n,rfl,hn⟩:=noU_nat hU
    rw[Int.toNat_natCast] at hR
    obtain⟨a,m,c,cu,sl⟩:=k.out.cell hn
    have hml:m≤30000:=by
     have:=manyX_at 64 bx n hn
     have:=sl.len
     omega
    have g0:(0:Int)≤(n:Int):=by omega
    have g64:(n:Int) < 64:=by omega
    have HS:Hid (∀W,Below w1.heap.size w1 W→Calls Tryz.prog 40 #[.slice a m c,.string X] W fun e w'=>e = .returned (.bool (decide (X.data.toList∈ids (bx n))))∧Below W.heap.size W w'):=fun W hb=>xhas_any a m c (bx n) X sl.len (by omega) W (sl.at_.later hb)
    have CU:Hid (∀W,Below w1.heap.size w1 W→W.cell? ⟨b,1+n,none⟩=some (.slice a m c)∧W.cell? ⟨b,65,none⟩=some (.int .i64 (quota:Int))):=fun W hb=>⟨cell_later hb cu,cell_later hb k.out.quo⟩
    by_cases hmem:X.data.toList∈ids (bx n)
    ·rw[if_pos hmem] at hR
     rw[decide_eq_true hmem] at HS
     have ER:Hid _:=hR
     clear hR HR k hU hI hTl hT hmem sl cu
     go_enter Tryz.func21, Tryz.ntmps21
     go_wp2_with fail
     refine Calls.mono US.out ?_
     rintro e w2 ⟨rfl,rfl⟩
     clear US
     go_wp2_with fail
     refine Calls.mono ID.out ?_
     rintro e w3 ⟨rfl,hb3⟩
     clear ID
     go_wp2_with fail
     refine Calls.mono (TX.out _) ?_
     rintro e w4 ⟨rfl,rfl⟩
     obtain⟨x1,x2⟩:=CU.out _ hb3
     clear TX
     go_wp2_with fail
     refine Calls.mono (HS.out _ hb3) ?_
     rintro e w5 ⟨rfl,hb5⟩
     have FF:Hid _:=STAY.out _ (chain hb3 hb5)
     clear HS STAY hb3 hb5 x1 x2
     go_wp2
     go_ret
     exact⟨by rw[←ER.out];rfl,by rw[←ER.out];exact FF.out⟩
    ·rw[if_neg hmem] at hR
     rw[decide_eq_false hmem] at HS
     have LN:Hid (∀W,Below w1.heap.size w1 W→Calls Tryz.prog 10 #[.pointer (some ⟨b,0,none⟩),.int .i64 (n:Int)] W fun e w'=>e = .returned (.int .i64 (m:Int))∧w'=W):=fun W hb=>by
      have:=xlen_any w W p F s q v x b quota vs bx (n:Int) (k.out.later hb)
      unfold lnX at this
      rw[if_neg (by rw[hU];simp),Int.toNat_natCast,sl.len] at this
      exact this
     by_cases hq:quota≤m
     ·rw[if_pos (by rw[sl.len];exact hq)] at hR
      have gq:(quota:Int)≤(m:Int):=by omega
      have ER:Hid _:=hR
      clear hR HR k hU hI hTl hT hmem sl cu
      go_enter Tryz.func21, Tryz.ntmps21
      go_wp2_with fail
      refine Calls.mono US.out ?_
      rintro e w2 ⟨rfl,rfl⟩
      clear US
      go_wp2_with fail
      refine Calls.mono ID.out ?_
      rintro e w3 ⟨rfl,hb3⟩
      clear ID
      go_wp2_with fail
      refine Calls.mono (TX.out _) ?_
      rintro e w4 ⟨rfl,rfl⟩
      obtain⟨x1,x2⟩:=CU.out _ hb3
      clear TX
      go_wp2_with fail
      refine Calls.mono (HS.out _ hb3) ?_
      rintro e w5 ⟨rfl,hb5⟩
      have b5:Below _ _ w5.drew:=(chain hb3 hb5).drew
      obtain⟨x3,x4⟩:=CU.out _ b5
      have L5:Hid _:=LN.out _ b5
      have FF:Hid _:=STAY.out _ b5
      clear HS STAY hb3 hb5 x1 x2 CU LN
      go_wp2_with fail
      go_region_held3 (fun w'=>w'.cell? ⟨b,65,none⟩=some (.int .i64 (quota:Int))) (first|exact x4|assumption) (first|(go_at_call 10;refine Calls.mono L5.out ?_;rintro e w6 ⟨rfl,rfl⟩))
      go_wp2
      go_ret
      exact⟨by rw[←ER.out];rfl,by rw[←ER.out];exact FF.out⟩
     ·rw[if_neg (by rw[sl.len];exact hq)] at hR
      have gq:¬(quota:Int)≤(m:Int):=by omega
      have hXl:X.data.toList.length=16:=okI_len hI
      have hTl2:T.data.toList.length≤222:=by omega
      have PR:Hid (∀W,Calls Tryz.prog 42 #[.int .i64 (n:Int),.string X,.string T] W fun e w'=>e = .returned (.string (st (putR n X.data.toList T.data.toList)))∧Below W.heap.size W w'):=fun W=>xput_any n hn X.data.toList T.data.toList hXl hTl2 W
      have gc:=gb.put hn hI hTl2 hmem
      have hmc:manyX (upB bx n (bx n++[(X.data.toList,T.data.toList)])) 64≤50000:=by
       have:=manyX_up 64 bx n (bx n++[(X.data.toList,T.data.toList)]) hn
       rw[List.length_append,List.length_singleton] at this
       omega
      have hpl:1≤(putR n X.data.toList T.data.toList).length∧(putR n X.data.toList T.data.toList).length≤2000:=by
       have:(putR n X.data.toList T.data.toList).length=2+16+T.data.toList.length:=by
        unfold putR
        rw[List.length_cons,List.length_cons,List.length_append,hXl]
        omega
       omega
      have htk:tksX bx [putR n X.data.toList T.data.toList]=some (upB bx n (bx n++[(X.data.toList,T.data.toList)])):=by
       rw[tksX,tkX_put hn hI hTl2 hmem]
       rfl
      have WR:Hid (∀W,Below w1.heap.size w1 W→Calls Tryz.prog 41 #[.pointer (some ⟨b,0,none⟩),.slice (some ⟨W.heap.size,0,none⟩) 1 1] (W.alloc (.cells #[.string (st (putR n X.data.toList T.data.toList))] 9)) fun e w'=>e = .returned (.int .i64 R.1.1.1)∧Hid (PyP w w1 (FB F q v b vs) p q b quota R.1.1.2 R.1.2 R.2 w')):=fun W hb=>by
       have nb1:=nb W (.cells #[.string (st (putR n X.data.toList T.data.toList))] 9)
       have hb2:=chain hb nb1
       have hbs:=hb.size
       have:=xwrite_any w p q b quota s x bx (upB bx n (bx n++[(X.data.toList,T.data.toList)])) F v vs (some ⟨W.heap.size,0,none⟩) 1 1 [putR n X.data.toList T.data.toList] rfl (by decide) (fun r hr=>by rw[List.mem_singleton.1 hr];exact hpl) htk (fun u=>by
        by_cases hu:u < 64
        ·have:=manyX_at 64 bx u hu;omega
        ·rw[gb.u u (by omega)];simp) gc hmc hl hk _ (k.out.later hb2) (fun i hi=>by
        obtain rfl:i=0:=by simpa using hi
        exact⟨W.heap.size,0,rfl,by rw[World.cell?_alloc_new];rfl⟩) (fun y e _=>by
        injection e with e
        subst e
        exact⟨by simp,fun c=>by have:W.heap.size < w1.heap.size:=(k.out.lz.fh c).1;omega⟩)
       rw[←hR]
       exact this.mono fun _ w' ⟨e1,e2⟩=>⟨e1,e2.trans (Nx.refl _ _) (Bf.of hb2)⟩
      obtain⟨P,hP⟩:∃P,st (putR n X.data.toList T.data.toList)=P:=⟨_,rfl⟩
      rw[hP] at PR WR
      clear hR HR k hU hI hTl hT hmem sl cu hXl hTl2 gc hmc hpl htk hP STAY hm hl hk gb
      go_enter Tryz.func21, Tryz.ntmps21
      go_wp2_with fail
      refine Calls.mono US.out ?_
      rintro e w2 ⟨rfl,rfl⟩
      clear US
      go_wp2_with fail
      refine Calls.mono ID.out ?_
      rintro e w3 ⟨rfl,hb3⟩
      clear ID
      go_wp2_with fail
      refine Calls.mono (TX.out _) ?_
      rintro e w4 ⟨rfl,rfl⟩
      obtain⟨x1,x2⟩:=CU.out _ hb3
      clear TX
      go_wp2_with fail
      refine Calls.mono (HS.out _ hb3) ?_
      rintro e w5 ⟨rfl,hb5⟩
      have b5:Below _ _ w5.drew:=(chain hb3 hb5).drew
      obtain⟨x3,x4⟩:=CU.out _ b5
      have L5:Hid _:=LN.out _ b5
      have B5:Hid _:=b5
      clear HS hb3 hb5 x1 x2 CU LN b5
      go_wp2_with fail
      go_region_held3 (fun w'=>w'.cell? ⟨b,65,none⟩=some (.int .i64 (quota:Int))) (first|exact x4|assumption) (first|(go_at_call 10;refine Calls.mono L5.out ?_;rintro e w6 ⟨rfl,rfl⟩))
      clear L5 x3 x4
      go_wp2_with fail
      refine Calls.mono (PR.out _) ?_
      rintro e w7 ⟨rfl,hb7⟩
      have W7:Hid _:=WR.out w7 (chain B5.out hb7)
      obtain⟨A,hA⟩:∃A,w7.heap.size=A:=⟨_,rfl⟩
      obtain⟨W8,hW8⟩:∃W,w7.alloc (.cells #[.string P] 9)=W:=⟨_,rfl⟩
      rw[hA,hW8] at W7
      clear PR WR B5 hb7
      go_wp2_with fail
      refine Calls.mono W7.out ?_
      rintro e w9 ⟨rfl,H9⟩
      clear W7 hA hW8
      go_wp2
      go_ret
      exact⟨rfl,H9.out⟩
   ·rw[if_pos (by omega)] at hR
    rw[decide_eq_false hT] at TX
    have ER:Hid _:=hR
    clear hR HR k hU hI hTl hT
    go_enter Tryz.func21, Tryz.ntmps21
    go_wp2_with fail
    refine Calls.mono US.out ?_
    rintro e w2 ⟨rfl,rfl⟩
    clear US
    go_wp2_with fail
    refine Calls.mono ID.out ?_
    rintro e w3 ⟨rfl,hb3⟩
    have FF:Hid _:=STAY.out _ hb3
    clear ID STAY hb3
    go_wp2_with fail
    refine Calls.mono (TX.out _) ?_
    rintro e w4 ⟨rfl,rfl⟩
    clear TX
    go_wp2
    go_ret
    exact⟨by rw[←ER.out];rfl,by rw[←ER.out];exact FF.out⟩
end Go.Proofs.YtjpaodepnacimaaGreatDoor
namespace Go.Proofs.YtjpaodepnacimaaGreatDoor
open Go.RowKit Go.Proofs.Fd Go.Proofs.Dk Go.Proofs.Lg
set_option maxRecDepth 20000
abbrev stc (q ep:Nat) (va vh:Value) (most:Nat):List Value:=[.pointer (some ⟨q,0,none⟩),.int .i64 (ep:Int),va,vh,.int .i64 (most:Int)]
structure Es (w:World) (b q ep most:Nat) (va vh:Value) (ah he:List Bs):Prop where
 bk:Blk w b (stc q ep va vh most)
 ra:OwnsS w va ah
 rh:OwnsS w vh he
 av:va.ownBlock≠some b
 hv:vh.ownBlock≠some b
 ne:∀g,va.ownBlock=some g→vh.ownBlock≠some g
def EFt (b:Nat) (va vh:Value) (g:Nat):Prop:=g=b∨va.ownBlock=some g∨vh.ownBlock=some g
section
variable {w:World} {b q ep most:Nat} {va vh:Value} {ah he:List Bs}
theorem Es.lt (h:Es w b q ep most va vh ah he) {x:Nat} (hx:EFt b va vh x):x < w.heap.size:=by
 rcases hx with rfl|e|e
 ·exact h.bk.lt
 ·exact (h.ra.lt x e).2
 ·exact (h.rh.lt x e).2
theorem Es.same (h:Es w b q ep most va vh ah he) {w':World} (hs:∀x,EFt b va vh x→w'.heap[x]?=w.heap[x]?):Es w' b q ep most va vh ah he :=
 ⟨h.bk.same (hs b (.inl rfl)),ownsRow_same h.ra (fun x e=>hs x (.inr (.inl e))),ownsRow_same h.rh (fun x e=>hs x (.inr (.inr e))),h.av,h.hv,h.ne⟩
theorem Es.later (h:Es w b q ep most va vh ah he) {w':World} (hb:Below w.heap.size w w'):Es w' b q ep most va vh ah he:=h.same fun x hx=>hb.block x (h.lt hx)
theorem Es.bf (h:Es w b q ep most va vh ah he) {F:Nat→Prop} {w':World} (hb:Bf F w w') (hF:∀x,EFt b va vh x→¬F x):Es w' b q ep most va vh ah he:=h.same fun x hx=>hb.block x (h.lt hx) (hF x hx)
end
theorem sindex_any (a:Option Addr) (n c:Nat) (l:List Bs) (hn:l.length=n) (hnb:n≤1000000) (X:ByteArray) (w:World) (h:Hid (TxAt w a l)) :
  Calls Tryz.prog 119 #[.slice a n c,.string X] w fun e w'=>∃z:Int,e = .returned (.int .i64 z)∧(0≤z↔X.data.toList∈l)∧w'=w:=by
 have HN:Hid (l.length=n):=hn
 clear hn
 go_enter Tryz.func119, Tryz.ntmps119
 go_wp2
 go_loopw [8] (fun i wr=>∃k:Nat,k≤n∧i = .int .i64 (k:Int)∧Hid (X.data.toList ∉ l.take k)∧w=wr) (fun i _=>n - (intOf i).toNat)
 case atStart=>exact⟨0,Nat.zero_le _,rfl,(by rw[List.take_zero];exact List.not_mem_nil),rfl⟩
 case round =>
  obtain⟨k,hk,rfl,J,rfl⟩:=hrel
  by_cases hlt:k < n
  ·have hkl:k < l.length:=by rw[HN.out];exact hlt
   have g1:(k:Int) < (n:Int):=by omega
   obtain⟨b1,o1,rfl,c1⟩:=h.out k hkl
   have ET:Hid (l.take (k+1)=l.take k++[l[k]]):=List.take_succ_eq_append_getElem hkl
   have EM:Hid (l[k]∈l):=List.getElem_mem hkl
   obtain⟨t,ht⟩:∃t,l[k]=t:=⟨_,rfl⟩
   rw[ht] at c1 ET EM
   unfold sv at c1
   clear ht
   by_cases he:X=st t
   ·subst he
    have EM2:Hid ((st t).data.toList∈l):=EM.out
    obtain⟨T,hT⟩:∃T,st t=T:=⟨_,rfl⟩
    rw[hT] at c1 EM2 ⊢
    clear hT J ET
    go_wp2
    go_ret
    exact⟨(k:Int),rfl,⟨fun _=>by first|exact EM2.out|exact EM.out,fun _=>by omega⟩,rfl⟩
   ·have HE:Hid (X.data.toList≠t):=fun c=>he (by rw[←c];rfl)
    have hne:(X.toList == (st t).toList)=false:=by
     rw[ByteArray.toList_eq,ByteArray.toList_eq]
     exact beq_eq_false_iff_ne.2 HE.out
    obtain⟨T,hT⟩:∃T,st t=T:=⟨_,rfl⟩
    rw[hT] at c1 hne
    clear hT he
    go_wp2
    go_roundw
    case rel=>exact⟨k+1,by omega,rfl,(by rw[ET.out];intro c;rcases List.mem_append.1 c with c|c;exact J.out c;exact HE.out (List.mem_singleton.1 c)),by first|rfl|trivial⟩
    case measure=>simp[intOf];omega
  ·have g1:¬(k:Int) < (n:Int):=by omega
   have hkn:k=n:=by omega
   go_wp2
   go_ret
   refine⟨-1,rfl,⟨fun c=>absurd c (by decide),fun c => ?_⟩,rfl⟩
   rw[←List.take_of_length_le (show l.length≤k by rw[HN.out];omega)] at c
   exact absurd c J.out
theorem scontains_any (a:Option Addr) (n c:Nat) (l:List Bs) (hn:l.length=n) (hnb:n≤1000000) (X:ByteArray) (w:World) (h:Hid (TxAt w a l)) :
  Calls Tryz.prog 76 #[.slice a n c,.string X] w fun e w'=>e = .returned (.bool (decide (X.data.toList∈l)))∧w'=w:=by
 have IX:Hid _:=sindex_any a n c l hn hnb X w h
 clear h hn
 go_enter Tryz.func76, Tryz.ntmps76
 go_wp2_with fail
 refine Calls.mono IX.out ?_
 rintro e w1 ⟨z,rfl,hz,rfl⟩
 clear IX
 by_cases hm:X.data.toList∈l
 ·have hz2:0≤z:=hz.2 hm
  have HM:Hid (X.data.toList∈l):=hm
  clear hz hm
  go_wp2
  go_ret
  exact⟨by rw[decide_eq_true HM.out];rfl,rfl⟩
 ·have hz2:decide (0≤z)=false:=decide_eq_false fun c=>hm (hz.1 c)
  have HM:Hid (X.data.toList ∉ l):=hm
  clear hz hm
  go_wp2
  go_ret
  exact⟨by rw[decide_eq_false HM.out];rfl,rfl⟩
end Go.Proofs.YtjpaodepnacimaaGreatDoor
