/- A part of the walk. -/
import Derived.Test.YtjcppbhgjchjaaaGreatDoorZr2G36
set_option maxHeartbeats 8000000
set_option maxRecDepth 20000
namespace Go.Proofs.YtjcppbhgjchjaaaGreatDoor
open Go.RowKit Go.Proofs.Fd
def oc (t:Int×Ba):List Value:=[.int .i64 t.1,.string t.2]
def ocs:List (Int×Ba)->List Value
 | []=>[]
 | t::l=>oc t++ocs l
theorem zmX:∀l m:List (Int×Ba),ocs (l++m)=ocs l++ocs m
 | [],_=>rfl
 | t::l,m=>by rw[List.cons_append,ocs,zmX l m,ocs,List.append_assoc]
theorem zmY:∀(l:List (Int×Ba)),∀u∈ocs l,u.oneCell'=true
 | [],u,h=>by cases h
 | t::l,u,h=>by
  rw[ocs,List.mem_append] at h;rcases h with h|h
  ·simp only[oc,List.mem_cons,List.not_mem_nil,or_false] at h
   rcases h with rfl|rfl <;> rfl
  ·exact zmY l u h
theorem zmZ:∀(l:List (Int×Ba)) (i:Nat) (hi:i < l.length),(ocs l)[i*2]?=some (.int .i64 l[i].1)/\(ocs l)[i*2+1]?=some (.string l[i].2)
 | [],i,hi=>absurd hi (Nat.not_lt_zero _)
 | t::l,0,_=>⟨rfl,rfl⟩
 | t::l,i+1,hi=>by
  have ih:=zmZ l i (by simpa using hi);rw[show (i+1)*2=i*2+2 by omega];exact ih
theorem zxb:(Tryz.prog.info? 87).map (fun i=>(i.zero,i.size,i.bytes))=some (some (.agg #[.int .i64 0,.string ⟨#[]⟩]),2,24):=by kernel_rfl
abbrev zdq (w:World) (v:Value) (l:List (Int×Ba)):Prop:=w.ownsRow 0 87 2 v l.length (ocs l)
theorem zth (w:World) (ty:TypeId) (v:Value) (l:List (Int×Ba)) (h:zdq w v l) (hl:l.length<=100000) (t:Int×Ba) (b:Nat) (c0:w.cell? ⟨b,0,none⟩=some (.int .i64 t.1)) (c1:w.cell? ⟨b,1,none⟩=some (.string t.2)) :
  ∃v' w',(Builtin.append_ #[53, 53] ty #[v,.slice (some ⟨b,0,none⟩) 1 1]).run Tryz.prog w = .ok v' w'/\zdq w' v' (l++[t])/\w.grownBy w' v.ownBlock/\(v'.ownBlock=v.ownBlock\/v'.ownBlock=some w.heap.size):=by
 obtain⟨i0,hi,hz0,hz1,hz2⟩:=info_parts zxb;obtain⟨v',w',r1,r2,r3,-,r5⟩:=run_append_own_at (P:=Tryz.prog) w 0 53 ty 87 i0 _ 2 24 Tryz.underlying53 hi hz0 hz1 hz2 rfl (by decide) v l.length (ocs l) h ⟨b,0,none⟩ 1 1 (oc t) rfl (fun j u hu=>by
   have q:Addr.add ⟨b,0,none⟩ j=⟨b,j,none⟩:=by simp[Addr.add];intro h;exact h.symm
   rw[q]
   match j,hu with
   | 0,hu=>simp[oc] at hu;subst hu;exact c0
   | 1,hu=>simp[oc] at hu;subst hu;exact c1
   | j+2,hu=>simp[oc] at hu) (zmY [t]) (by unfold maxLen;omega) (by omega) (Nat.zero_le _)
 refine⟨v',w',r1,?_,r3,r5⟩;unfold zdq;rw[zmX,List.length_append]
 simpa[ocs] using r2
theorem zh0 {w:World} {v:Value} {l:List (Int×Ba)} (h:zdq w v l):∃a n c,v = .slice a n c:=by
 rcases h.2 with ⟨rfl,-⟩|⟨g,cap,cur,rfl,-⟩
 ·exact⟨_,_,_,rfl⟩
 ·exact⟨_,_,_,rfl⟩
structure Ni (nd:Nd):Prop where
 perm:(nd.t.l.map Go.Proofs.Wh.Tm.i).Perm (nd.w.map fun x=>(x.1:Int))
 apart:nd.w.Pairwise fun x y=>x.1≠y.1
section
variable {nd:Nd}
theorem Ni.keys (h:Ni nd):(nd.w.map fun x=>(x.1:Int)).Nodup:=by
 have:nd.w.Pairwise fun x y=>(x.1:Int)≠(y.1:Int):=h.apart.imp (fun e c=>e (by omega))
 exact List.pairwise_map.2 this
theorem Ni.ids (h:Ni nd):(nd.t.l.map Go.Proofs.Wh.Tm.i).Nodup:=h.perm.nodup_iff.2 h.keys
theorem zh1 (t:Go.Proofs.Wh.St) (tt:Int):(Go.Proofs.Wh.advV t tt).Sublist (t.l.map Go.Proofs.Wh.Tm.i):=by
 unfold Go.Proofs.Wh.advV
 split
 ·exact List.Sublist.map _ List.filter_sublist
 ·exact List.nil_sublist _
theorem Ni.nodup (h:Ni nd) (tt:Int):(Go.Proofs.Wh.advV nd.t tt).Nodup:=(zh1 nd.t tt).nodup h.ids
theorem Ni.mem (h:Ni nd) {tt i:Int} (hi:i∈Go.Proofs.Wh.advV nd.t tt):∃x∈nd.w,(x.1:Int)=i:=by
 have:=h.perm.mem_iff.1 ((zh1 nd.t tt).subset hi);obtain⟨x,hx,e⟩:=List.mem_map.1 this;exact⟨x,hx,e⟩
theorem Ni.len (h:Ni nd):nd.t.l.length=nd.w.length:=by
 have:=h.perm.length_eq
 simpa using this
theorem Ni.find (h:Ni nd) {x:Nat×(Int×Ba)} (hx:x∈nd.w):nd.w.find? (fun p=>decide ((p.1:Int)=(x.1:Int)))=some x:=by
 have gen:∀l:List (Nat×(Int×Ba)),(l.Pairwise fun x y=>x.1≠y.1)->x∈l->l.find? (fun p=>decide ((p.1:Int)=(x.1:Int)))=some x:=by
  intro l
  induction l with
  | nil=>intro _ hx;cases hx
  | cons y l ih =>
   intro hl hx;rw[List.pairwise_cons] at hl;rw[List.find?_cons];by_cases e:(y.1:Int)=(x.1:Int)
   ·rcases List.mem_cons.1 hx with rfl|hx
    ·simp
    ·exact absurd (by omega) (hl.1 x hx)
   ·rcases List.mem_cons.1 hx with rfl|hx
    ·exact absurd rfl e
    ·simp only[e,decide_false]
     exact ih hl.2 hx
 exact gen nd.w h.apart hx
end
def Nd.vals (nd:Nd) (l:List Int):List (Int×Ba):=l.map fun i=>((nd.w.find? fun p=>decide ((p.1:Int)=i)).map fun p=>p.2).getD (0,⟨#[]⟩)
def Nd.left (nd:Nd) (l:List Int):List (Nat×(Int×Ba)):=nd.w.filter fun p=>!decide ((p.1:Int)∈l)
theorem zp6 (nd:Nd):nd.left []=nd.w:=by
 unfold Nd.left;rw[List.filter_eq_self];intro x _;simp
theorem zm0 (nd:Nd) (l:List Int) (x:Nat):nd.left (l++[(x:Int)])=(nd.left l).filter fun p=>!decide ((p.1:Int)=(x:Int)):=by
 unfold Nd.left;rw[List.filter_filter];refine List.filter_congr fun p _ => ?_
 by_cases h1:(p.1:Int)∈l <;> by_cases h2:(p.1:Int)=(x:Int) <;> simp[h1,h2]
theorem zm1 (nd:Nd) (l:List Int) (i:Int):nd.vals (l++[i])=nd.vals l++nd.vals [i]:=by unfold Nd.vals;rw[List.map_append]
theorem zp7 {nd:Nd} (h:Ni nd) {x:Nat×(Int×Ba)} (hx:x∈nd.w):nd.vals [(x.1:Int)]=[x.2]:=by
 unfold Nd.vals;rw[List.map_cons,List.map_nil,h.find hx];rfl
section
variable {w wr:World} {p m:Nat} {key:Ba} {nd:Nd} {lab:Nat->Nat} {F:Nat->Prop} {q:Nat} {v:Value} {b:Nat} {va vh:Value} {pw:Nat} {G:Nat->Prop} {bm:Nat} {D:DataW Unit} {vl:Value}
theorem Nr.wheelL (h:Nr w wr p m key nd lab F q v b va vh pw G bm D vl) {w':World} {t':Go.Proofs.Wh.St} {G':Nat->Prop} (k:Whl.WAt w' pw G' t') (n:Whl.Nx wr G G') (f:Whl.Bf G wr w') {lab':Nat->Nat} (hl:∀z,z < wr.heap.size->lab' z=lab z) (hu:∀z,wr.heap.size<=z->G' z->lab' z=1) :
  Nr w w' p m key { nd with t:=t' } lab' F q v b va vh pw G' bm D vl/\Fr w wr lab lab' w':=by
 have s:=f.size;have fs:=zvs f;have ap:∀{i:Nat} {P:Nat->Prop} {z:Nat},Lbl lab i P w.heap.size wr.heap.size->i≠1->P z->¬G z:=fun {i P z} k hi hz=>k.apart h.l1 hi hz
 exact⟨⟨⟨h.pz.lz.other fs (fun z hz=>ap h.l0 (by decide) (.inl hz)) (fun z hz=>(h.l1 z hz).2.1),h.pz.es.bf fs (fun z hz=>ap h.l0 (by decide) (.inr hz)),h.pz.ap⟩,k,Whl.ownsMap_same h.mp (fs.block _ h.mp.lt (ap h.l2 (by decide) rfl)),h.mo,Sto.ownsRow_same h.ls (fun g e=>fs.block g (h.ls.lt g e).2 (ap h.l3 (by decide) e)),h.bk.bf fs (ap h.l4 (by decide) rfl),
  h.l0.as hl s,h.l1.next hl hu n (fun z hz=>k.lt hz) h.nw,h.l2.as hl s,h.l3.as hl s,h.l4.as hl s⟩,⟨hl,fs.wide fun z hz=>⟨by rw[(h.l1 z hz).1];decide,(h.l1 z hz).2.1⟩⟩⟩
end
def TkP (w wr:World) (p m:Nat) (key:Ba) (nd:Nd) (lab:Nat->Nat) (F:Nat->Prop) (q:Nat) (v:Value) (b:Nat) (va vh:Value) (pw bm:Nat) (vl:Value) (x:Int) (d:List (Int×Ba)) (e:Ending) (w':World):Prop :=
 ∃da dn dc,e = .returned (.tuple #[.slice da dn dc,.int .i64 x])/\∃lab' G' D',Nr w w' p m key nd lab' F q v b va vh pw G' bm D' vl/\Fr w wr lab lab' w'/\zdq w' (.slice da dn dc) d/\∀z,(Value.slice da dn dc).ownBlock=some z->5<=lab' z/\wr.heap.size<=z
structure TkI (w wr:World) (p m:Nat) (key:Ba) (nd:Nd) (lab:Nat->Nat) (F:Nat->Prop) (q:Nat) (v:Value) (b:Nat) (va vh:Value) (pw:Nat) (G:Nat->Prop) (bm:Nat) (vl:Value) (ids:List Int) (iv:Value) (k:Nat) (d:Value) (D:DataW Unit) (labk:Nat->Nat) (W:World):Prop where
 nr:Nr w W p m key { nd with w:=nd.left (ids.take k) } labk F q v b va vh pw G bm D vl
 fr:Fr w wr lab labk W
 oi:Whl.OwnsI W iv ids
 li:∀z,iv.ownBlock=some z->labk z=7
 ou:zdq W d (nd.vals (ids.take k))
 lu:∀z,d.ownBlock=some z->labk z=6/\wr.heap.size<=z
 n0:w.heap.size<=wr.heap.size
theorem TkI.step {w wr:World} {p m:Nat} {key:Ba} {nd:Nd} {lab:Nat->Nat} {F:Nat->Prop} {q:Nat} {v:Value} {b:Nat} {va vh:Value} {pw:Nat} {G:Nat->Prop} {bm:Nat} {vl:Value} {ids:List Int} {iv:Value} {k:Nat} {d:Value} {D:DataW Unit} {labk:Nat->Nat} {W:World}
  (T:TkI w wr p m key nd lab F q v b va vh pw G bm vl ids iv k d D labk W) (ap:nd.w.Pairwise fun x y=>x.1≠y.1) (x:Nat×(Int×Ba)) (hx:x∈nd.w) (hb:x.1<=1000000) (hk:ids.take (k+1)=ids.take k++[(x.1:Int)]) (hn:(x.1:Int) ∉ ids.take k) (hv:nd.vals [(x.1:Int)]=[x.2]) (hlen:ids.length<=4096) :
  ∃n s,(Instr.lookup 108 (.map (some bm)) (.int .i64 (x.1:Int)) false).run Tryz.prog W = .ok (.agg #[.int .i64 n,.string s]) W/\∃da dn dc w2,(Builtin.append_ #[53, 53] 53 #[d,.slice (some ⟨W.heap.size,0,none⟩) 1 1]).run Tryz.prog (W.alloc (.cells #[.int .i64 n,.string s] 87)) = .ok (.slice da dn dc) w2/\w2.cell? ⟨m,4,none⟩=some (.map (some bm)) /\
   ∃w3,(Builtin.delete_ #[108, 3] 0 #[.map (some bm),.int .i64 (x.1:Int)]).run Tryz.prog w2 = .ok (.tuple #[]) w3/\Hid (∃D' labk',TkI w wr p m key nd lab F q v b va vh pw G bm vl ids iv (k+1) (.slice da dn dc) D' labk' w3):=by
 have hxl:x∈nd.left (ids.take k):=List.mem_filter.2 ⟨hx,by simpa using hn⟩;obtain⟨n,s,l1,l2⟩:=zpY W bm D T.nr.mp (x.1:Int) (by omega) (by omega);have l3:=T.nr.mo.at_ x hxl;rw[l2] at l3;obtain⟨rfl,rfl⟩:=zpX l3;refine⟨x.2.1,x.2.2,l1,?_⟩;have nb:Bw W (W.alloc (.cells #[.int .i64 x.2.1,.string x.2.2] 87)):=(Below.refl _ _).alloc (Nat.le_refl _) _;have z0:(W.alloc (.cells #[.int .i64 x.2.1,.string x.2.2] 87)).cell? ⟨W.heap.size,0,none⟩=some (.int .i64 x.2.1):=by simp[go_sem]
 have z1:(W.alloc (.cells #[.int .i64 x.2.1,.string x.2.2] 87)).cell? ⟨W.heap.size,1,none⟩=some (.string x.2.2):=by simp[go_sem]
 have hsz:W.heap.size < (W.alloc (.cells #[.int .i64 x.2.1,.string x.2.2] 87)).heap.size:=by simp
 obtain⟨W1,hW1⟩:∃V,W.alloc (.cells #[.int .i64 x.2.1,.string x.2.2] 87)=V:=⟨_,rfl⟩;rw[hW1] at nb z0 z1 hsz ⊢;have hWr:wr.heap.size<=W.heap.size:=T.fr.bf.size;have N1:=T.nr.later nb;have O1:zdq W1 d (nd.vals (ids.take k)):=Sto.ownsRow_same T.ou (fun g e=>nb.block g (T.ou.lt g e).2);have I1:=Whl.OwnsI.later T.oi nb;obtain⟨d',w2,r1,r2,r3,r4⟩:=zth W1 53 d (nd.vals (ids.take k)) O1 (by unfold Nd.vals;rw[List.length_map,List.length_take];omega) (x.2.1,x.2.2) W.heap.size z0 z1;obtain⟨da,dn,dc,rfl⟩:=zh0 r2;have gr:Sto.Bf (fun z=>d.ownBlock=some z) W1 w2:=Sto.Bf.grown r3 fun z e => .inl e
 have hl2:∀z,z < W1.heap.size->zbh labk W1.heap.size 6 z=labk z:=fun z=>za2
 have N2:=N1.other (lab':=zbh labk W1.heap.size 6) gr (fun z e _=>by rw[(T.lu z e).1];decide) (fun z e=>Nat.le_trans T.n0 (T.lu z e).2) hl2;have B2:Sto.Bf (Fm w lab) wr w2:=(T.fr.bf.later nb).trans (fun z e => .inr (T.lu z e).2) gr;have I2:Whl.OwnsI w2 iv ids:=Sto.ownsRow_same I1 (fun z e=>gr.block z (I1.lt z e).2 (fun c=>by have h1:=T.li z e;have h2:=(T.lu z c).1;omega));refine⟨da,dn,dc,w2,r1,N2.c4,?_⟩;obtain⟨w3,q1,q2,q3⟩:=zs8 w2 bm D N2.mp (x.1:Int) (by omega) (by omega) 0;have MO:Mo (D.del (.int .i64 (x.1:Int))) (nd.left (ids.take (k+1))):=by
  have:=T.nr.mo.del (T.nr.mp.tidy Whl.int_key) (List.Pairwise.filter _ ap) hxl;rw[hk,zm0];exact this
 obtain⟨N3,F3⟩:=N2.map (Whl.ownsMap_size q2) MO q3;have b3:Sto.Bf (fun z=>z=bm) w2 w3:=Sto.Bf.grown q3 fun z e => .inl (by injection e with e;exact e.symm)
 have hbm:zbh labk W1.heap.size 6 bm=2:=(N2.l2 bm rfl).1;have e6:∀z,(Value.slice da dn dc).ownBlock=some z->zbh labk W1.heap.size 6 z=6/\wr.heap.size<=z:=fun z e=>by
  rcases r4 with c|c
  ·rw[c] at e
   have h1:=T.lu z e;refine⟨?_,h1.2⟩;by_cases hz:z < W1.heap.size
   ·rw[hl2 z hz];exact h1.1
   ·exact zaT (by omega)
  ·rw[c] at e
   injection e with e
   subst e;exact⟨zaT (Nat.le_refl _),by have:=nb.size;omega⟩
 have e7:∀z,iv.ownBlock=some z->zbh labk W1.heap.size 6 z=7:=fun z e=>by
  rw[hl2 z (I1.lt z e).2];exact T.li z e
 refine⟨w3,q1,D.del (.int .i64 (x.1:Int)),zbh labk W1.heap.size 6,N3,⟨fun z hz=>(hl2 z (by have:=nb.size;omega)).trans (T.fr.lo z hz),B2.trans (fun z e => ?_) b3⟩,Sto.ownsRow_same I2 (fun z e=>b3.block z (I2.lt z e).2 (fun c=>by have:=e7 z e;rw[c,hbm] at this;omega)),e7,?_,e6,T.n0⟩
 ·subst e
  rcases Nat.lt_or_ge z wr.heap.size with c|c
  ·have h1:=T.fr.lo z c
   rw[(T.nr.l2 z rfl).1] at h1;exact .inl ⟨by rw[<-h1];decide,(T.nr.l2 z rfl).2.1⟩
  ·exact .inr c
 ·have:zdq w2 (.slice da dn dc) (nd.vals (ids.take (k+1))):=by
   rw[hk,zm1,hv];exact r2
  exact Sto.ownsRow_same this (fun z e=>b3.block z (this.lt z e).2 (fun c=>by have:=(e6 z e).1;rw[c,hbm] at this;omega))
theorem zdb {P:Program} (w:World) {ops:Array Oper} {rest:List Oper} {o:Oper} {a:Act} {Q:Exit->Act->World->Prop} (hgd:o.guard=none) (s x:Operand) (t tn:TypeId)
  (ho:o.op = .call { callee := .builtin .delete,args:=#[s,x],argTypes:=#[t,tn] }) (vs vx:Value) (hs:a.eval s=vs) (hx:a.eval x=vx)
  (v':Value) (w':World) (hr:(Builtin.delete_ #[t,tn] o.type #[vs,vx]).run P w = .ok v' w') (h:wpList P ops Q rest (a.put o.dst v') w'):wpList P ops Q (o::rest) a w :=
 wpList_plain hgd fun _ hK=>Whl.wp_delete_run w s x t tn ho vs vx hs hx v' w' hr (hK _ _ h)
theorem zm2 {l:List Int} {k:Nat} (hk:k < l.length):l.take (k+1)=l.take k++[l[k]]:=List.take_succ_eq_append_getElem hk
theorem zi4:∀{l:List Int} {k:Nat} (_:k < l.length),l.Nodup->l[k] ∉ l.take k
 | [],_,hk,_=>absurd hk (Nat.not_lt_zero _)
 | x::l,0,_,_=>by simp
 | x::l,k+1,hk,h=>by
  rw[List.nodup_cons] at h;have hk':k < l.length:=by simpa using hk
  rw[List.take_succ_cons,List.getElem_cons_succ,List.mem_cons];rintro (c|c)
  ·exact h.1 (by rw[<-c];exact List.getElem_mem hk')
  ·exact zi4 hk' h.2 c
theorem zm3 (w wr:World) (p m:Nat) (key:Ba) (nd:Nd) (lab:Nat->Nat) (F:Nat->Prop) (q:Nat) (v:Value) (b:Nat) (va vh:Value) (pw:Nat) (G:Nat->Prop) (bm:Nat) (D:DataW Unit) (vl:Value)
  (tt:Int) (I:Ni nd) (B:Nb nd) (H:Hid (Nr w wr p m key nd lab F q v b va vh pw G bm D vl)) :
  Cl 23 #[.pointer (some ⟨m,0,none⟩),.int .i64 tt] wr fun e w'=>TkP w wr p m key (nd.tickS tt) lab F q v b va vh pw bm vl (nd.tickE tt) (nd.tickV tt) e w':=by
 have AV:Hid _:=Whl.adv_any pw G nd.t tt (by have:=B.many;omega) wr H.out.wt;have c1:=H.out.c1;have ET:nd.tickS tt={ nd with t:=Go.Proofs.Wh.advS nd.t tt,w:=nd.left (Go.Proofs.Wh.advV nd.t tt) }:=rfl;have EV:nd.tickV tt=nd.vals (Go.Proofs.Wh.advV nd.t tt):=rfl;have EE:nd.tickE tt=Go.Proofs.Wh.advE nd.t tt:=rfl;have START:Hid (∀G' ia im ic w2,Whl.WAt w2 pw G' (Go.Proofs.Wh.advS nd.t tt)->Whl.Nx wr G G'->Whl.Bf G wr w2->Whl.OwnsI w2 (.slice ia im ic) (Go.Proofs.Wh.advV nd.t tt)->(∀g,(Value.slice ia im ic).ownBlock=some g->¬G' g/\wr.heap.size<=g) ->
   ∃lab2,TkI w wr p m key { nd with t:=Go.Proofs.Wh.advS nd.t tt } lab F q v b va vh pw G' bm vl (Go.Proofs.Wh.advV nd.t tt) (.slice ia im ic) 0 (.slice none 0 0) D lab2 w2):=fun G' ia im ic w2 z1 z2 z3 z4 z5=>by
  have N2:=H.out.wheelL (lab':=fun z=>if z < wr.heap.size then lab z else if (Value.slice ia im ic).ownBlock=some z then 7 else 1) z1 z2 z3 (fun z hz=>if_pos hz) (fun z hz hg=>by
   simp only[if_neg (show ¬z < wr.heap.size by omega)];exact if_neg (fun e=>(z5 z e).1 hg))
  refine⟨_,?_,N2.2,z4,fun z e => ?_,World.ownsRow_nil _ _ _ _,fun z e=>(by cases e),H.out.nw⟩
  ·rw[List.take_zero,zp6]
   exact N2.1
  ·have:=(z5 z e).2
   simp only[if_neg (show ¬z < wr.heap.size by omega),if_pos e]
 have KEY:Hid (∀k (hk:k < (Go.Proofs.Wh.advV nd.t tt).length),∃x∈nd.w,(x.1:Int)=(Go.Proofs.Wh.advV nd.t tt)[k]/\nd.vals [(x.1:Int)]=[x.2]/\x.1<=1000000):=fun k hk=>by
  obtain⟨x,hx,e⟩:=I.mem (List.getElem_mem hk);exact⟨x,hx,e,zp7 I hx,by have:=B.low x hx;have:=B.on;omega⟩
 have ND:Hid ((Go.Proofs.Wh.advV nd.t tt).Nodup/\(Go.Proofs.Wh.advV nd.t tt).length<=4096):=⟨I.nodup tt,by
  have h1:=(zh1 nd.t tt).length_le;have h2:=I.len;have h3:=B.w;rw[List.length_map] at h1;omega⟩
 have AP:Hid (nd.w.Pairwise fun x y=>x.1≠y.1):=I.apart;have EVN:Hid (Go.Proofs.Wh.advE nd.t tt≠0->Go.Proofs.Wh.advV nd.t tt=[]):=fun h=>by unfold Go.Proofs.Wh.advV;rw[if_neg h]
 rw[ET,EV,EE];obtain⟨x,hx⟩:∃x,Go.Proofs.Wh.advE nd.t tt=x:=⟨_,rfl⟩;obtain⟨t',ht'⟩:∃x,Go.Proofs.Wh.advS nd.t tt=x:=⟨_,rfl⟩;obtain⟨ids,hids⟩:∃x,Go.Proofs.Wh.advV nd.t tt=x:=⟨_,rfl⟩;rw[hx,hids] at EVN;rw[hids] at ND KEY;rw[ht',hids] at START ⊢;rw[hx,ht',hids] at AV;rw[hx];clear hx ht' hids ET EV EE I B H;by_cases x0:x=0
 ·subst x0
  clear EVN;go_enter Tryz.func23, Tryz.ntmps23;go_wp2_with (go_at_call 49;refine Calls.mono AV.out ?_;rintro e w2 ⟨G',ia,im,ic,rfl,z1,z2,z3,z4,z5⟩);obtain⟨lab2,T0⟩:=START.out G' ia im ic w2 z1 z2 z3 z4 z5;have TT:Hid (∃D' labk,TkI w wr p m key { nd with t:=t' } lab F q v b va vh pw G' bm vl ids (.slice ia im ic) 0 (.slice none 0 0) D' labk w2):=⟨D,lab2,T0⟩;have HL:Hid (ids.length=im):=(Whl.owns_int z4).2;have h4:im<=4096:=by have:=ND.out.2;have:=HL.out;omega
  clear z1 z2 z3 z4 z5 T0 START AV c1;obtain⟨wo,rfl⟩:∃V,V=wr:=⟨_,rfl⟩;go_loopw [25,8] (fun i d wq=>∃(k:Nat) (da:Option Addr) (dn dc:Nat),k<=im/\i = .int .i64 (k:Int)/\d = .slice da dn dc/\Hid (∃D' labk,TkI w wo p m key { nd with t:=t' } lab F q v b va vh pw G' bm vl ids (.slice ia im ic) k (.slice da dn dc) D' labk wq)) (fun i _ _=>im - (intOf i).toNat)
  case atStart=>exact⟨0,none,0,0,Nat.zero_le _,rfl,rfl,TT⟩
  case round =>
   obtain⟨k,da,dn,dc,hk,rfl,rfl,J⟩:=hrel;clear TT;by_cases hlt:k < im
   ·have hkl:k < ids.length:=by rw[HL.out];exact hlt
    have g1:(k:Int) < (im:Int):=by omega
    obtain⟨D',labk,T⟩:=J.out;obtain⟨x,hx,e1,e2,e3⟩:=KEY.out k hkl;obtain⟨b1,o1,rfl,k1⟩:=(Whl.owns_int T.oi).1 k hkl;have ST:=T.step AP.out x hx e3 (by rw[zm2 hkl,e1]) (by rw[e1];exact zi4 hkl ND.out.1) e2 ND.out.2;rw[<-e1] at k1;have c4:=T.nr.c4;obtain⟨n,s,q1,ea,en,ec,w4,q2,q3,w5,q4,FF⟩:=ST;obtain⟨X,hX⟩:∃X:Int,(x.1:Int)=X:=⟨_,rfl⟩;rw[hX] at k1 q1 q4;have LOW:Hid (k < im):=hlt;clear T J KEY e1 e2 e3 hX hx AP ND;go_wp2_with (first|(at_builtin;refine Go.Lib.wpList_append_run _ rfl _ _ _ _ rfl _ _ rfl rfl _ _ q2 ?_)|(at_delete;refine zdb _ rfl _ _ _ _ rfl _ _ rfl rfl _ _ q4 ?_));go_roundw
    case rel=>exact⟨k+1,ea,en,ec,by omega,by go_num,rfl,FF.out⟩
    case measure=>simp[intOf];omega
   ·have g1:¬(k:Int) < (im:Int):=by omega
    have hkn:k=im:=by omega
    subst hkn;have HF:Hid (∃D' labk,Nr w wr p m key { nd with t:=t',w:=nd.left ids } labk F q v b va vh pw G' bm D' vl/\Fr w wo lab labk wr/\zdq wr (.slice da dn dc) (nd.vals ids)/\∀z,(Value.slice da dn dc).ownBlock=some z->5<=labk z/\wo.heap.size<=z):=by
     obtain⟨D',labk,T⟩:=J.out;have N:=T.nr;have O:=T.ou;rw[List.take_of_length_le (Nat.le_of_eq HL.out)] at N O;exact⟨D',labk,N,T.fr,O,fun z e=>⟨by rw[(T.lu z e).1];decide,(T.lu z e).2⟩⟩
    clear J KEY AP ND;go_wp2;go_ret2;obtain⟨D',labk,N,R,O,L⟩:=HF.out;exact⟨da,dn,dc,rfl,labk,G',D',N,R,O,L⟩
 ·have E0:Hid (ids=[]):=EVN.out x0
  go_enter Tryz.func23, Tryz.ntmps23;go_wp2_with (go_at_call 49;refine Calls.mono AV.out ?_;rintro e w2 ⟨G',ia,im,ic,rfl,z1,z2,z3,z4,z5⟩);go_ret2;obtain⟨lab2,T0⟩:=START.out G' ia im ic w2 z1 z2 z3 z4 z5;have N:=T0.nr;rw[E0.out] at N ⊢;exact⟨none,0,0,rfl,lab2,G',D,N,T0.fr,World.ownsRow_nil _ _ _ _,fun z e=>(by cases e)⟩
def nwX (key:Ba) (pool:Int) (s:Go.Proofs.Dk.St):(Int×Go.Proofs.Dk.St)×Option Nd :=
 if key.size≠32 then ((3,s),none)
 else if pool < 1\/4096 < pool then ((1,s),none)
 else match (Sto.opz 4096 s (Go.Proofs.Lg.opn s)) with
  | (r,none)=>(r,none)
  | (r,some (x,y))=>((0,r.2),some ⟨pool.toNat,r.2,x,y,Go.Proofs.Wh.St.init,[],[],⟨0,0,0,0,0,0⟩⟩)
def Dn (w wr:World) (p:Nat) (s:Go.Proofs.Dk.St) (lab:Nat->Nat) (w':World):Prop:=∃lab' F',Sto.Dl w w' p F' s/\Lbl lab' 0 F' w.heap.size w'.heap.size/\Fr w wr lab lab' w'
def NwP (w wr:World) (p:Nat) (key:Ba) (lab:Nat->Nat) (r:(Int×Go.Proofs.Dk.St)×Option Nd) (e:Ending) (w':World):Prop :=
 match r.2 with
 | none=>e = .returned (.tuple #[.pointer none,.int .i64 r.1.1])/\Dn w wr p r.1.2 lab w'
 | some nd=>∃m,e = .returned (.tuple #[.pointer (some ⟨m,0,none⟩),.int .i64 0])/\r.1.1=0/\Na w p m key nd wr lab w'
theorem zi5 {w wr:World} {p:Nat} {key:Ba} {lab:Nat->Nat} {r:(Int×Go.Proofs.Dk.St)×Option Nd} {z:Int} {s:Go.Proofs.Dk.St} {w':World} (h:r=((z,s),none)) (k:Dn w wr p s lab w'):NwP w wr p key lab r (.returned (.tuple #[.pointer none,.int .i64 z])) w':=by
 subst h;exact⟨rfl,k⟩
theorem zm4 {w wr w1 w2 w3:World} {p:Nat} {key:Ba} {lab:Nat->Nat} {F:Nat->Prop} {s:Go.Proofs.Dk.St} {x:Go.Proofs.Lg.Lo} {y:Sto.Ey} {q b pw pool:Nat} {G:Nat->Prop} (hF:Lbl lab 0 F w.heap.size wr.heap.size) (k:Sto.PzP w wr F p q b 4096 s x y w1)
  (hG:Whl.WAt w2 pw G Go.Proofs.Wh.St.init) (hG2:∀g,G g->w1.heap.size<=g) (hb:Below w1.heap.size w1 w2) (hb3:Below w2.heap.size w2 w3) (hn:w.heap.size<=wr.heap.size) :
  Na w p (w3.heap.size+1) key ⟨pool,s,x,y,Go.Proofs.Wh.St.init,[],[],⟨0,0,0,0,0,0⟩⟩ wr lab ((w3.alloc (.map #[] 0)).alloc (.cells #[.pointer (some ⟨b,0,none⟩),.pointer (some ⟨pw,0,none⟩),.string key,.int .i64 (pool:Int),.map (some w3.heap.size),.slice none 0 0,.int .i64 0,.int .i64 0,.int .i64 0,.int .i64 0,.int .i64 0,.int .i64 0] 110)):=by
 obtain⟨F',v,va,vh,z,n,f⟩:=k;have e1:((w3.alloc (.map #[] 0)).alloc (.cells #[.pointer (some ⟨b,0,none⟩),.pointer (some ⟨pw,0,none⟩),.string key,.int .i64 (pool:Int),.map (some w3.heap.size),.slice none 0 0,.int .i64 0,.int .i64 0,.int .i64 0,.int .i64 0,.int .i64 0,.int .i64 0] 110)).heap.size=w3.heap.size+2:=by simp
 have b4:Below w3.heap.size w3 (w3.alloc (.map #[] 0)):=(Below.refl _ _).alloc (Nat.le_refl _) _;have hs4:(w3.alloc (.map #[] 0)).heap.size=w3.heap.size+1:=by simp
 have b5:Below w3.heap.size w3 ((w3.alloc (.map #[] 0)).alloc (.cells #[.pointer (some ⟨b,0,none⟩),.pointer (some ⟨pw,0,none⟩),.string key,.int .i64 (pool:Int),.map (some w3.heap.size),.slice none 0 0,.int .i64 0,.int .i64 0,.int .i64 0,.int .i64 0,.int .i64 0,.int .i64 0] 110)):=b4.alloc (by simp) _;have OM:zfD ((w3.alloc (.map #[] 0)).alloc (.cells #[.pointer (some ⟨b,0,none⟩),.pointer (some ⟨pw,0,none⟩),.string key,.int .i64 (pool:Int),.map (some w3.heap.size),.slice none 0 0,.int .i64 0,.int .i64 0,.int .i64 0,.int .i64 0,.int .i64 0,.int .i64 0] 110)) w3.heap.size (.map []):=(zpZ w3).alloc _;have BK:=Sto.Blk.new (w3.alloc (.map #[] 0)) (mxc b pw w3.heap.size key pool (.slice none 0 0) ⟨0,0,0,0,0,0⟩) 110 (by simp);rw[hs4] at BK;obtain⟨W5,h5⟩:∃V,(w3.alloc (.map #[] 0)).alloc (.cells #[.pointer (some ⟨b,0,none⟩),.pointer (some ⟨pw,0,none⟩),.string key,.int .i64 (pool:Int),.map (some w3.heap.size),.slice none 0 0,.int .i64 0,.int .i64 0,.int .i64 0,.int .i64 0,.int .i64 0,.int .i64 0] 110)=V:=⟨_,rfl⟩;have BK2:Sto.Blk W5 (w3.heap.size+1) (mxc b pw w3.heap.size key pool (.slice none 0 0) ⟨0,0,0,0,0,0⟩):=by rw[<-h5];exact BK
 rw[h5] at e1 b5 OM ⊢;have s1:=f.size;have s2:=hb.size;have s3:=hb3.size;have hb15:Below w1.heap.size w1 W5:=chain hb (chain hb3 b5);have hb25:Below w2.heap.size w2 W5:=chain hb3 b5;have lt0:∀g,Sto.FP F' q v b va vh g->g < w1.heap.size:=fun g hg=>by
  rcases hg with c|c
  ·exact (z.lz.fh c).1
  ·exact z.es.lt c
 have lt1:∀g,G g->g < w2.heap.size:=fun g hg=>hG.lt hg
 refine⟨fun g=>if g < wr.heap.size then lab g else if g < w1.heap.size then 0 else if g < w2.heap.size then 1 else if g=w3.heap.size then 2 else 4,F',q,v,b,va,vh,pw,G,w3.heap.size,.map [],.slice none 0 0,⟨⟨z.lz.later hb15,z.es.later hb15,z.ap⟩,hG.later hb25,OM,Mo.init,World.ownsRow_nil _ _ _ _,BK2,fun g hg => ?_,fun g hg => ?_,fun g hg => ?_,fun g hg=>(by cases hg),fun g hg => ?_⟩,fun g hg=>if_pos hg,(f.wide fun g hg=>⟨by rw[(hF g hg).1];decide,(hF g hg).2.1⟩).later hb15⟩
 ·have h0:=lt0 g hg
  rcases n g hg with c|c
  ·refine⟨?_,(hF g c).2.1,by omega⟩
   simp only[if_pos (hF g c).2.2];exact (hF g c).1
  ·refine⟨?_,by omega,by omega⟩
   simp only[if_neg (show ¬g < wr.heap.size by omega),if_pos h0]
 ·have h0:=lt1 g hg
  have h1:=hG2 g hg;refine⟨?_,by omega,by omega⟩;simp only[if_neg (show ¬g < wr.heap.size by omega),if_neg (show ¬g < w1.heap.size by omega),if_pos h0]
 ·subst hg
  refine⟨?_,by omega,by omega⟩;simp only[if_neg (show ¬w3.heap.size < wr.heap.size by omega),if_neg (show ¬w3.heap.size < w1.heap.size by omega),if_neg (show ¬w3.heap.size < w2.heap.size by omega),if_true]
 ·subst hg
  refine⟨?_,by omega,by omega⟩;simp only[if_neg (show ¬w3.heap.size+1 < wr.heap.size by omega),if_neg (show ¬w3.heap.size+1 < w1.heap.size by omega),if_neg (show ¬w3.heap.size+1 < w2.heap.size by omega),if_neg (show ¬w3.heap.size+1=w3.heap.size by omega)]
theorem zp8 {most:Int} {s:Go.Proofs.Dk.St} {o:(Int×Go.Proofs.Dk.St)×Go.Proofs.Lg.Lo} {r:Int×Go.Proofs.Dk.St} (h:Sto.opz most s o=(r,none)):r.1≠0:=by
 unfold Sto.opz at h
 split at h
 ·injection h with h _
  rw[<-h];show (1:Int)≠0
  decide
 ·split at h
  ·rename_i h0
   injection h with h _
   rw[<-h];exact h0
  ·split at h
   ·injection h with h _
    rw[<-h];show (160:Int)≠0
    decide
   ·injection h with _ h
    cases h
theorem zp9 (w wr:World) (p:Nat) (key:Ba) (pool:Int) (lab:Nat->Nat) (F:Nat->Prop) (s:Go.Proofs.Dk.St) (hn:s.n<=1024) (hl:s.l.length+5000<=1000000) (hk:Hid (Kh w)) (DD:Hid (Sto.Dl w wr p F s)) (LF:Hid (Lbl lab 0 F w.heap.size wr.heap.size)) :
  Cl 18 #[.string key,.pointer (some ⟨p,0,none⟩),.int .i64 pool] wr fun e w'=>NwP w wr p key lab (nwX key pool s) e w':=by
 have D0:Hid (Dn w wr p s lab wr):=⟨lab,F,DD.out,LF.out,Fr.refl _ _ _⟩;have hw:w.heap.size<=wr.heap.size:=DD.out.below.size;obtain⟨X,hX⟩:∃X,nwX key pool s=X:=⟨_,rfl⟩;rw[hX];unfold nwX at hX;by_cases h1:key.size=32
 ·rw[if_neg (by omega)] at hX
  have g1:((key.size:Nat):Int)=32:=by omega
  by_cases h2:pool < 1
  ·rw[if_pos (.inl h2)] at hX
   have FF:Hid (NwP w wr p key lab X (.returned (.tuple #[.pointer none,.int .i64 1])) wr):=zi5 hX.symm D0.out;clear hX D0 DD LF hk;go_enter Tryz.func18, Tryz.ntmps18;go_wp2;go_ret2;exact FF.out
  ·by_cases h3:4096 < pool
   ·rw[if_pos (.inr h3)] at hX
    have FF:Hid (NwP w wr p key lab X (.returned (.tuple #[.pointer none,.int .i64 1])) wr):=zi5 hX.symm D0.out;clear hX D0 DD LF hk;go_enter Tryz.func18, Tryz.ntmps18;go_wp2;go_ret2;exact FF.out
   ·rw[if_neg (by omega)] at hX
    have OP:Hid _:=Sto.pzopen_any Sto.take_c w wr p F s 4096 hn hl hk DD;obtain⟨N,hN⟩:∃N:Nat,pool=(N:Int):=⟨pool.toNat,by omega⟩;subst hN;obtain⟨⟨⟨re,rs⟩,ro⟩,hr⟩:∃r,Sto.opz 4096 s (Go.Proofs.Lg.opn s)=r:=⟨_,rfl⟩;rw[hr] at OP hX;cases ro with
    | none =>
     have OP1:Hid (Cl 44 #[.pointer (some ⟨p,0,none⟩),.int .i64 4096] wr fun e w'=>e = .returned (.tuple #[.pointer none,.int .i64 re])/\Sto.Ds w wr p F rs w'):=OP.out;have hre:Hid (re≠0):=zp8 hr;have FF:Hid (∀w',Sto.Ds w wr p F rs w'->NwP w wr p key lab X (.returned (.tuple #[.pointer none,.int .i64 re])) w'):=fun w' ⟨F',d1,d2,d3⟩=>zi5 hX.symm ⟨zbh lab wr.heap.size 0,F',d1,LF.out.next (fun z=>za2) (fun z hz _=>zaT hz) d2 (fun z hz=>d1.at_.lt hz) hw,fun z=>za2,d3.wide fun z hz=>⟨by rw[(LF.out z hz).1];decide,(LF.out z hz).2.1⟩⟩
     have hr0:=hre.out;clear hX D0 DD LF hk OP hr hre;go_enter Tryz.func18, Tryz.ntmps18;go_wp2_with (go_at_call 44;refine Calls.mono OP1.out ?_;rintro e w2 ⟨rfl,d2⟩);go_ret2;exact FF.out _ d2
    | some xy =>
     obtain⟨x,y⟩:=xy;have OP1:Hid (Cl 44 #[.pointer (some ⟨p,0,none⟩),.int .i64 4096] wr fun e w'=>∃q b,e = .returned (.tuple #[.pointer (some ⟨b,0,none⟩),.int .i64 0])/\re=0/\Sto.PzP w wr F p q b 4096 rs x y w'):=OP.out;have CL:Hid (∀W,Cl 46 #[.string key] W fun e w'=>e = .returned (.string key)/\Bw W w'):=fun W=>zc6 key (by omega) W
     have NW:Hid (∀W,Cl 45 #[] W fun e w'=>∃p F,e = .returned (.pointer (some ⟨p,0,none⟩))/\Whl.WAt w' p F Go.Proofs.Wh.St.init/\(∀g,F g->W.heap.size<=g)/\Bw W w'):=fun W=>Whl.new_any W
     have FF:Hid (∀q b pw G w1 w2 w3,Sto.PzP w wr F p q b 4096 rs x y w1->Whl.WAt w2 pw G Go.Proofs.Wh.St.init->(∀g,G g->w1.heap.size<=g)->Bw w1 w2->Bw w2 w3 ->
       NwP w wr p key lab X (.returned (.tuple #[.pointer (some ⟨w3.heap.size+1,0,none⟩),.int .i64 0])) ((w3.alloc (.map #[] 0)).alloc (.cells #[.pointer (some ⟨b,0,none⟩),.pointer (some ⟨pw,0,none⟩),.string key,.int .i64 (N:Int),.map (some w3.heap.size),.slice none 0 0,.int .i64 0,.int .i64 0,.int .i64 0,.int .i64 0,.int .i64 0,.int .i64 0] 110))):=fun q b pw G w1 w2 w3 k1 k2 k3 k4 k5=>by
      rw[<-hX];exact⟨w3.heap.size+1,rfl,rfl,zm4 (pool:=N) LF.out k1 k2 k3 k4 k5 hw⟩
     have hmm:=@run_makeMap Tryz.prog;clear hX D0 DD LF hk OP hr;go_enter Tryz.func18, Tryz.ntmps18;go_wp2_with (first|(go_at_call 44;refine Calls.mono OP1.out ?_;rintro e w1 ⟨q,b,rfl,-,k1⟩)|(go_at_call 45;refine Calls.mono (NW.out _) ?_;rintro e w2 ⟨pw,G,rfl,k2,k3,k4⟩)|(go_at_call 46;refine Calls.mono (CL.out _) ?_;rintro e w3 ⟨rfl,k5⟩));go_ret2;have:=FF.out q b pw G w1 w2 w3 k1 k2 k3 k4 k5
     simpa using this
 ·rw[if_pos h1] at hX
  have g1:¬((key.size:Nat):Int)=32:=by omega
  have FF:Hid (NwP w wr p key lab X (.returned (.tuple #[.pointer none,.int .i64 3])) wr):=zi5 hX.symm D0.out;clear hX D0 DD LF hk;go_enter Tryz.func18, Tryz.ntmps18;go_wp2;go_ret2;exact FF.out
end Go.Proofs.YtjcppbhgjchjaaaGreatDoor
namespace Go.Proofs.YtjcppbhgjchjaaaGreatDoor
open Go.RowKit Go.Proofs.Fd Go.Proofs.Dk Go.Proofs.Lg
theorem zqa {most:Nat} {s:St} {x:Lo} {y:Sto.Ey} {t:Bs} (ht:t.length=16) (hy:t∈y.2.1++y.2.2):Sto.adp most s x y t=(((170,s),x),y):=by
 unfold Sto.adp;rw[if_neg (fun c=>c ht),if_pos hy]
end Go.Proofs.YtjcppbhgjchjaaaGreatDoor
namespace Go.Proofs.YtjcppbhgjchjaaaGreatDoor
open Go.RowKit Go.Proofs.Fd Go.Proofs.Hs Go.Proofs.Cc Go.Proofs.Hd Go.Proofs.Rt Go.Proofs.Wd
theorem zqb {a b:Ba} (h:kv a=kv b):bdy a=bdy b/\rtg a=rtg b:=by
 unfold kv at h;simp only[Value.agg.injEq] at h;have h':=congrArg Array.toList h;simp only[List.cons.injEq,Value.string.injEq] at h';exact⟨h'.2.2.1,h'.2.2.2.2.1⟩
theorem zxc (s:Ba):kz≠kv s:=by
 intro h;unfold kz kv at h;simp only[Value.agg.injEq] at h;have h':=congrArg Array.toList h;simp only[List.cons.injEq,Value.string.injEq] at h';have:=congrArg ByteArray.size h'.1;rw[zaR] at this;exact absurd this (by decide)
theorem zvt {p h:Ba} {x:Hp} {n s:Ba} (e:plV p h=#[hv x,.string n,kv s,.int .i64 0]):∃s',hpl p h = .ok (x,n,s')/\bdy s'=bdy s/\rtg s'=rtg s:=by
 rw[zmd] at e;obtain⟨s',h1,h2⟩:=zuV e (fun c hc=>by
  rw[hc] at e;simp only[h8V] at e;have h':=congrArg Array.toList e;simp only[List.cons.injEq] at h';exact zxc s h'.2.2.1)
 exact⟨s',h1,zqb h2⟩
theorem zm5 (seed:Ba) (ks:List Ba) (hs:List Hp) (hz:seed.size=32) (hk:∀k∈ks,k.size=32) (hp:pth hs=0) (hl:hs.length=ks.length) :
  ∃ss,ss.length=ks.length/\mkE seed (ks.map fun k=>Crv.ek (Crv.pub k)) hs=0/\mkS seed (ks.map fun k=>Crv.ek (Crv.pub k)) hs=ss/\mkH seed (ks.map fun k=>Crv.ek (Crv.pub k)) hs=⟨(zbb seed ss hs 0).toArray⟩
   /\ ∀i (hi:i < ks.length),(zbb seed ss hs i).length=248/\∀B:List UInt8,B.length=256->ppV ks[i] ⟨(zbb seed ss hs i++B).toArray⟩ =
    if i+1 < ks.length then #[pdv (hs.getD i zh) ⟨(zbb seed ss hs (i+1)++zaV (bdy (nth ss i)).data.toList B).toArray⟩ (rtg (nth ss i)) ⟨#[]⟩,.int .i64 0]
    else (match zbg (zaV (bdy (nth ss i)).data.toList B) with
     | none=>#[pdz,.int .i64 90]
     | some t=>#[pdv (hs.getD i zh) ⟨#[]⟩ (rtg (nth ss i)) ⟨t.toArray⟩,.int .i64 0]):=by
 obtain⟨ss,s1,s2,s3,s4,s5⟩:=zpp seed ks hs hz hk hp hl;obtain⟨g1,g2,g3,g4⟩:=zdu hs hp;refine⟨ss,s1,s2,s3,s4,fun i hi => ?_⟩;obtain⟨p1,p2⟩:=s5 i hi;refine⟨p2,fun B hB => ?_⟩;obtain⟨s',q1,q2,q3⟩:=zvt p1;have:=zuW ks[i] ⟨(zbb seed ss hs i).toArray⟩ B _ _ _ (by rw[zbd];exact p2) hB q1;rw[this,q2,q3];by_cases hlast:i+1 < ks.length
 ·have hk1:(hs.getD i zh).k=1:=(g4 i (by omega)).2 (by omega)
  rw[if_pos hk1,if_pos hlast,if_pos hlast]
 ·have hk1:¬(hs.getD i zh).k=1:=fun q=>by have:=(g4 i (by omega)).1 q;omega
  first
  | (rw[if_neg hk1,if_neg hlast];done)
  | (rw[if_neg hk1,if_neg hlast];cases zbg (zaV (bdy (nth ss i)).data.toList B) <;> rfl)
end Go.Proofs.YtjcppbhgjchjaaaGreatDoor
namespace Go.Proofs.YtjcppbhgjchjaaaGreatDoor
open Go.RowKit Go.Proofs.Fd
end Go.Proofs.YtjcppbhgjchjaaaGreatDoor
namespace Go.Proofs.YtjcppbhgjchjaaaGreatDoor
open Go.RowKit Go.Proofs.Fd Go.Proofs.Hs Go.Proofs.Cc Go.Proofs.Hd Go.Proofs.Rt
end Go.Proofs.YtjcppbhgjchjaaaGreatDoor
namespace Go.Proofs.YtjcppbhgjchjaaaGreatDoor
open Go.RowKit Go.Proofs.Fd Go.Proofs.Hs Go.Proofs.Cc Go.Proofs.Hd Go.Proofs.Rt Go.Proofs.Wd
def pmE (seed:Ba) (pts:List Ba) (t:Ba) (hs:List Hp):Int:=if mkE seed pts hs=0 then (if t.size<=222 then 0 else 2) else mkE seed pts hs
def pmB (seed:Ba) (pts:List Ba) (t:Ba) (hs:List Hp):Ba:=if pmE seed pts t hs=0 then ⟨((mkH seed pts hs).data.toList++pld (mkS seed pts hs) t.data.toList).toArray⟩ else ⟨#[]⟩
theorem zxd (seed:Ba) (pts:List Ba) (t:Ba) (hs:List Hp) (h:¬mkE seed pts hs=0):pmE seed pts t hs=mkE seed pts hs/\pmB seed pts t hs=⟨#[]⟩:=by
 have e:pmE seed pts t hs=mkE seed pts hs:=if_neg h;exact⟨e,if_neg (by rw[e];exact h)⟩
theorem zti (seed:Ba) (pts:List Ba) (t:Ba) (hs:List Hp) (h:mkE seed pts hs=0) (ht:222 < t.size):pmE seed pts t hs=2/\pmB seed pts t hs=⟨#[]⟩:=by
 have e:pmE seed pts t hs=2:=by unfold pmE;rw[if_pos h,if_neg (by omega)]
 exact⟨e,if_neg (by rw[e];decide)⟩
theorem zvu (seed:Ba) (pts:List Ba) (t:Ba) (hs:List Hp) (h:mkE seed pts hs=0) (ht:t.size<=222):pmE seed pts t hs=0/\pmB seed pts t hs=⟨((mkH seed pts hs).data.toList++pld (mkS seed pts hs) t.data.toList).toArray⟩:=by
 have e:pmE seed pts t hs=0:=by unfold pmE;rw[if_pos h,if_pos ht]
 exact⟨e,if_pos e⟩
def zi6:Prop:=∀(seed:Ba) (a:Option Addr) (pts:List Ba) (n cap:Nat) (t:Ba) (b:Option Addr) (hs:List Hp) (m cap2:Nat) (w:World),Hid (pts.length=n/\hs.length=m)->Hid (n*16<=140737488351232/\m*48<=140737488351232) ->
  Hid (seed.size+64<=140737488355328)->Hid (∀p∈pts,p.size<=140737488355328)->Hid (∀h∈hs,h.id.size<=140737488355328)->Hid (t.size<=140737488355328)->Hid (Kh w)->Hid (StrAt w a pts)->Hid (zbk w b hs) ->
  Cl 30 #[.string seed,.slice a n cap,.string t,.slice b m cap2] w fun e w'=>e = .returned (.tuple #[.string (pmB seed pts t hs),.int .i64 (pmE seed pts t hs)])/\Bw w w'
def zdj:Prop:=∀(p b:Ba) (w:World),Hid (p.size<=140737488355328)->Hid (b.size<=140737488355328)->Hid (Kh w) ->
  Cl 86 #[.string p,.string b] w fun e w'=>e = .returned (.tuple (ppV p b))/\Bw w w'
def zaU:Ba:=⟨#[104,111,112,115]⟩
theorem zvv:Hid (zaU.size+64<=140737488355328):=by show (4:Nat)+64<=_;decide
theorem zbH (i:Nat) (hi:i < 200) (w:World) (hK:Hid (Kh w)) :
  Cl 13 #[.int .i64 (i:Int)] w fun e w'=>e = .returned (.string (pv zaU i))/\Bw w w':=by
 obtain⟨Lbl,hLb⟩:∃L:Ba,⟨(pvL i).toArray⟩=L:=⟨_,rfl⟩;have DV:Hid (∀w,Kh w->Cl 29 #[.string zaU,.string Lbl,.int .i64 32] w fun e w'=>e = .returned (.tuple #[.string (pv zaU i),.int .i64 0])/\Bw w w'):=fun w h=>by
  have:=zds zaU Lbl 32 w zvv (by rw[<-hLb];show (8:Nat)+97<=_;decide) h;unfold drV at this;rw[if_neg (by decide)] at this;rw[<-hLb] at this ⊢;exact this
 generalize pv zaU i=X at *;obtain⟨b,hb⟩:∃b,UInt8.ofNat (48+i)=b:=⟨_,rfl⟩;have bn:(b.toNat:Int)=48+(i:Int):=by rw[<-hb,UInt8.toNat_ofNat'];omega
 have t1:IntKind.i64.wrap (48+(i:Int))=48+(i:Int):=by rw[IntKind.wrap_i64];omega
 have t2:IntKind.u8.wrap (48+(i:Int))=48+(i:Int):=by rw[IntKind.wrap_u8];omega
 have t3:(48+(i:Int)) % 256=48+(i:Int):=by omega
 obtain⟨W,hW⟩:∃W,w.alloc (.cells #[.int .u8 (48+(i:Int))] 5)=W:=⟨_,rfl⟩;have CB:(convert 99 9 (.slice (some ⟨w.heap.size,0,none⟩) 1 1)).run Tryz.prog W = .ok (.string ⟨[b].toArray⟩) W:=by
  have h:BytesAt W w.heap.size [b]:=fun j hj=>by
   obtain rfl:j=0:=by simp at hj;omega
   rw[<-hW];exact⟨by rw[World.cell?_alloc_new];simp[bn],by simp[go_sem]⟩
  exact h.string rfl
 have AD:∀w,(Op.stringOp .add ⟨#[112,114,105,118,97,116,101]⟩ ⟨[b].toArray⟩).run Tryz.prog w = .ok (.string Lbl) w:=fun w=>by
  have e:(⟨#[112,114,105,118,97,116,101]⟩:Ba)++⟨[b].toArray⟩=Lbl:=by
   rw[<-hLb,<-hb];apply ByteArray.ext;simp[pvL]
  rw[<-e];exact run_string_add_sum _ _ _ (by show (7:Nat)+1<=_;decide)
 have BW:Hid (Bw w W/\Kh W):=by
  rw[<-hW];exact⟨(Below.refl _ _).alloc (Nat.le_refl _) _,hK.out.alloc _⟩
 unfold zaU at DV;clear hb bn hLb;go_enter Tryz.func13, Tryz.ntmps13;go_wp2_with fail;refine Calls.mono (DV.out _ BW.out.2) ?_;rintro e w1 ⟨rfl,hb1⟩;have B1:Hid (Bw w w1):=chain BW.out.1 hb1;clear hb1 DV;go_wp2;go_ret;exact⟨rfl,B1.out⟩
theorem zdk (i:Nat) (hi:i < 200) (w:World) (hK:Hid (Kh w)) :
  Cl 9 #[.int .i64 (i:Int)] w fun e w'=>e = .returned (.string (pp zaU i))/\Bw w w':=by
 have P1:Hid (∀w,Kh w->Cl 13 #[.int .i64 (i:Int)] w fun e w'=>e = .returned (.string (pv zaU i))/\Bw w w'):=fun w h=>zbH i hi w h
 have P2:Hid (∀w,Cl 31 #[.string (pv zaU i)] w fun e w'=>e = .returned (.tuple #[.string (pp zaU i),.int .i64 0])/\Bw w w'):=fun w=>Crv.Public_ok (pv zaU i) (zbY zaU i) w
 generalize pp zaU i=X at *;generalize pv zaU i=Y at *;go_enter Tryz.func9, Tryz.ntmps9;go_wp2_with fail;refine Calls.mono (P1.out _ hK.out) ?_;rintro e w1 ⟨rfl,hb1⟩;have B1:Hid (Bw w w1):=hb1;clear hb1 P1;go_wp2_with fail;refine Calls.mono (P2.out _) ?_;rintro e w2 ⟨rfl,hb2⟩;have B2:Hid (Bw w w2):=chain B1.out hb2;clear hb2 P2;go_wp2;go_ret;exact⟨rfl,B2.out⟩
def zbN (w:World) (b:Nat) (x:Hp) (n t s:Ba):Prop :=
 (∀o,w.frozen? ⟨b,o,none⟩=false)/\w.cell? ⟨b,0,none⟩=some (.int .i64 x.k)/\w.cell? ⟨b,1,none⟩=some (.int .i64 x.n)/\w.cell? ⟨b,2,none⟩=some (.int .i64 x.u)/\w.cell? ⟨b,3,none⟩=some (.int .i64 x.d)/\w.cell? ⟨b,4,none⟩=some (.string x.id)
  /\ w.cell? ⟨b,5,none⟩=some (.string n)/\w.cell? ⟨b,6,none⟩=some (.string t)/\w.cell? ⟨b,7,none⟩=some (.string s)
theorem zbN.new (w:World) (ty:TypeId) (k n u d:Int) (id nx t s:Ba):zbN (w.alloc (.cells #[.int .i64 k,.int .i64 n,.int .i64 u,.int .i64 d,.string id,.string nx,.string t,.string s] ty)) w.heap.size ⟨k,n,u,d,id⟩ nx t s :=
 ⟨fun o=>by simp[go_sem],by simp[go_sem],by simp[go_sem],by simp[go_sem],by simp[go_sem],by simp[go_sem],by simp[go_sem],by simp[go_sem],by simp[go_sem]⟩
theorem zbN.later {w w':World} {b:Nat} {x:Hp} {n t s:Ba} (h:zbN w b x n t s) (hb:Bw w w'):zbN w' b x n t s:=by
 obtain⟨f,h0,h1,h2,h3,h4,h5,h6,h7⟩:=h;exact⟨fun o=>(zac hb (World.block_lt_of_cell? _ _ h0)).trans (f o),cell_later hb h0,cell_later hb h1,cell_later hb h2,cell_later hb h3,cell_later hb h4,cell_later hb h5,cell_later hb h6,cell_later hb h7⟩
theorem zbN.lt {w:World} {b:Nat} {x:Hp} {n t s:Ba} (h:zbN w b x n t s):b < w.heap.size:=World.block_lt_of_cell? _ _ h.2.1
def zgM (w:World) (b:Nat) (x:Hp) (n t s:Ba):World:=(((((((w.setCell ⟨b,0,none⟩ (.int .i64 x.k)).setCell ⟨b,1,none⟩ (.int .i64 x.n)).setCell ⟨b,2,none⟩ (.int .i64 x.u)).setCell ⟨b,3,none⟩ (.int .i64 x.d)).setCell ⟨b,4,none⟩ (.string x.id)).setCell ⟨b,5,none⟩ (.string n)).setCell ⟨b,6,none⟩ (.string t)).setCell ⟨b,7,none⟩ (.string s)
theorem zbN.put {w:World} {b:Nat} {x:Hp} {n t s:Ba} (h:zbN w b x n t s) (y:Hp) (n' t' s':Ba):zbN (zgM w b y n' t' s') b y n' t' s':=by
 obtain⟨f,h0,h1,h2,h3,h4,h5,h6,h7⟩:=h;unfold zgM;refine⟨fun o=>by simp[go_sem,f],?_,?_,?_,?_,?_,?_,?_,?_⟩ <;> simp[go_sem,h0,h1,h2,h3,h4,h5,h6,h7]
theorem zdc {B:Nat} {a w:World} (h:Below B a w) {b:Nat} (hb:B<=b) (x:Hp) (n t s:Ba):Below B a (zgM w b x n t s):=by
 unfold zgM;exact (((((((h.setCell (p:=⟨b,0,none⟩) hb _).setCell (p:=⟨b,1,none⟩) hb _).setCell (p:=⟨b,2,none⟩) hb _).setCell (p:=⟨b,3,none⟩) hb _).setCell (p:=⟨b,4,none⟩) hb _).setCell (p:=⟨b,5,none⟩) hb _).setCell (p:=⟨b,6,none⟩) hb _).setCell (p:=⟨b,7,none⟩) hb _
theorem zbN.range {w:World} {b:Nat} {x:Hp} {n t s:Ba} (h:zbN w b x n t s):w.rangeAt b 0 [.int .i64 x.k,.int .i64 x.n,.int .i64 x.u,.int .i64 x.d,.string x.id,.string n,.string t,.string s]:=by
 obtain⟨-,h0,h1,h2,h3,h4,h5,h6,h7⟩:=h;intro j v hv;rcases (by have:=(List.getElem?_eq_some_iff.1 hv).1;simp at this;omega:j=0\/j=1\/j=2\/j=3\/j=4\/j=5\/j=6\/j=7) with rfl|rfl|rfl|rfl|rfl|rfl|rfl|rfl
 ·simp at hv;subst hv;simpa using h0
 ·simp at hv;subst hv;simpa using h1
 ·simp at hv;subst hv;simpa using h2
 ·simp at hv;subst hv;simpa using h3
 ·simp at hv;subst hv;simpa using h4
 ·simp at hv;subst hv;simpa using h5
 ·simp at hv;subst hv;simpa using h6
 ·simp at hv;subst hv;simpa using h7
theorem zbN.cells {w:World} {b:Nat} {k n u d:Int} {id nx t s:Ba} (h:zbN w b ⟨k,n,u,d,id⟩ nx t s) :
  (w.cell? ⟨b,0,none⟩=some (.int .i64 k)/\w.cell? ⟨b,1,none⟩=some (.int .i64 n)/\w.cell? ⟨b,2,none⟩=some (.int .i64 u)/\w.cell? ⟨b,3,none⟩=some (.int .i64 d)/\w.cell? ⟨b,4,none⟩=some (.string id)
  /\ w.cell? ⟨b,5,none⟩=some (.string nx)/\w.cell? ⟨b,6,none⟩=some (.string t)/\w.cell? ⟨b,7,none⟩=some (.string s))
  /\ w.frozen? ⟨b,0,none⟩=false/\w.frozen? ⟨b,1,none⟩=false/\w.frozen? ⟨b,2,none⟩=false/\w.frozen? ⟨b,3,none⟩=false/\w.frozen? ⟨b,4,none⟩=false/\w.frozen? ⟨b,5,none⟩=false/\w.frozen? ⟨b,6,none⟩=false/\w.frozen? ⟨b,7,none⟩=false :=
 ⟨h.2,h.1 0,h.1 1,h.1 2,h.1 3,h.1 4,h.1 5,h.1 6,h.1 7⟩
theorem zi7 (w:World):Cl 60 #[] w fun e w'=>e = .returned (.int .i64 222)/\w'=w:=by
 go_enter Tryz.func60, Tryz.ntmps60;go_wp2;go_ret;exact⟨rfl,rfl⟩
def opw1:Oper:={ dst:=some 26,op := .fieldAddr 148 (.tmp 3) 1,type:=0,pos := "theorems.go:28", after:=#[],guard:=none }
def opw2:Oper:={ dst:=some 27,op := .load 9 (.tmp 26),type := 9, pos := "theorems.go:28", after:=#[eD 1],guard:=none }
def opw3:Oper:={ dst:=some 28,op := .call { callee:=Go.Callee.value (.func 86),args:=#[Go.Operand.tmp 25,Go.Operand.tmp 27],argTypes:=#[9, 9] },type := 149, pos := "theorems.go:28", after:=#[eD 0,eD 2,eC 0],guard:=none }
def opw4:Oper:={ dst:=some 24,op := .move (.tmp 28),type := 149, pos := "theorems.go:28", after:=#[eD 3],guard:=none }
def opw5:Oper:={ dst:=some 29,op := .extract (.tmp 24) 0,type := 148, pos := "theorems.go:28", after:=#[eD 4],guard:=none }
def opw6:Oper:={ dst:=some 30,op := .extract (.tmp 24) 1,type := 32, pos := "theorems.go:28", after:=#[eD 4,{ on:=8,ground:=Go.Ground.gcOnly Go.Departure.lateStores }],guard:=none }
def opw7:Oper:={ dst:=some 5,op := .alloc 148, type:=0,pos := "theorems.go:28", after:=#[],guard:=none }
def opw8:Oper:={ dst:=none,op := .store 148 (.tmp 5) (.tmp 29),type:=0,pos := "theorems.go:28", after:=#[eD 7,eD 5,eC 3,eP 0,eP 1,eP 2,eP 3,eP 4,eP 5,{ on:=6,ground:=Go.Ground.textOnly Go.Departure.lateStores },eP 7],guard:=none }
def opw9:Oper:={ dst:=some 6,op := .assign (.tmp 30),type := 32, pos := "theorems.go:28", after:=#[eD 6,eC 8,eP 0,eP 1,eP 2,eP 3,eP 4,eP 5,eP 6,eP 7,eP 8],guard:=none }
def zgN:Ba:=⟨#[115,101,101,100]⟩
def zh2:Ba:=⟨#[116,101,120,116]⟩
def zj7 (n:Nat):Ba:=⟨[UInt8.ofNat n,0].toArray⟩
def zeM (n:Nat):Ba:=⟨(drv zgN.data.toList (zj7 n).data.toList 32).toArray⟩
def zbv (d:Nat):List Hp:=[⟨1,7,0,(d:Int),⟨#[]⟩⟩,⟨4,0,0,0,⟨#[]⟩⟩]
def zej (n d:Nat):Ba:=pmB (zeM n) [pp zaU 0,pp zaU 1] zh2 (zbv d)
theorem zeN (CM:Hid zi6) (n d:Nat) (hn:n < 256) (w:World) (hK:Hid (Kh w)) :
  Cl 25 #[.int .i64 (n:Int),.int .i64 (d:Int)] w fun e w'=>e = .returned (.string (zej n d))/\Bw w w':=by
 obtain⟨Lbl,hLb⟩:∃L:Ba,zj7 n=L:=⟨_,rfl⟩;have DV:Hid (∀w,Kh w->Cl 29 #[.string zgN,.string Lbl,.int .i64 32] w fun e w'=>e = .returned (.tuple #[.string (zeM n),.int .i64 0])/\Bw w w'):=fun w h=>by
  have:=zds zgN Lbl 32 w (by show (4:Nat)+64<=_;decide) (by rw[<-hLb];show (2:Nat)+97<=_;decide) h;unfold drV at this;rw[if_neg (by decide)] at this;rw[<-hLb] at this ⊢;exact this
 unfold zgN at DV;obtain⟨SD,hSD⟩:∃S,zeM n=S:=⟨_,rfl⟩;have zS:SD.size=32:=by
  rw[<-hSD];show (drv zgN.data.toList (zj7 n).data.toList 32).toArray.size=32
  unfold drv;simp[zbF]
 obtain⟨QA,hQA⟩:∃S,pp zaU 0=S:=⟨_,rfl⟩;obtain⟨QB,hQB⟩:∃S,pp zaU 1=S:=⟨_,rfl⟩;have zQ:QA.size=32:=by rw[<-hQA];exact zma _ _
 have zQ2:QB.size=32:=by rw[<-hQB];exact zma _ _
 have V4:Hid (∀w,Kh w->Cl 9 #[.int .i64 0] w fun e w'=>e = .returned (.string QA)/\Bw w w'):=fun w h=>by
  rw[<-hQA];exact zdk 0 (by decide) w h
 have V5:Hid (∀w,Kh w->Cl 9 #[.int .i64 1] w fun e w'=>e = .returned (.string QB)/\Bw w w'):=fun w h=>by
  rw[<-hQB];exact zdk 1 (by decide) w h
 obtain⟨PK,hPK⟩:∃P,zej n d=P:=⟨_,rfl⟩;have M1:Hid (∀(A B:Nat) (w:World),Kh w->w.cell? ⟨A,0,none⟩=some (.string QA)->w.cell? ⟨A,1,none⟩=some (.string QB)->zbk w (some ⟨B,0,none⟩) (zbv d)->Cl 30 #[.string SD,.slice (some ⟨A,0,none⟩) 2 2,.string ⟨#[116,101,120,116]⟩,.slice (some ⟨B,0,none⟩) 2 2] w fun e w'=>(∃z:Int,e = .returned (.tuple #[.string PK,.int .i64 z]))/\Bw w w'):=fun A B w h h0 h1 h2=>by
  have:=CM.out SD (some ⟨A,0,none⟩) [QA,QB] 2 2 ⟨#[116,101,120,116]⟩ (some ⟨B,0,none⟩) (zbv d) 2 2 w ⟨rfl,rfl⟩ (by show (2:Nat)*16<=_/\(2:Nat)*48<=_;decide) (by show SD.size+64<=_;omega) (fun p hp=>by
   simp at hp;rcases hp with rfl|rfl
   ·omega
   ·omega) (fun x hx=>by
   simp[zbv] at hx;rcases hx with rfl|rfl
   ·show (0:Nat)<=_;decide
   ·show (0:Nat)<=_;decide) (by show (4:Nat)<=_;decide) h (strAt2 h0 h1) h2
  have e:pmB SD [QA,QB] ⟨#[116,101,120,116]⟩ (zbv d)=PK:=by rw[<-hPK,<-hSD,<-hQA,<-hQB];rfl
  rw[e] at this;exact this.mono fun _ _ ⟨e1,e2⟩=>⟨⟨_,e1⟩,e2⟩
 obtain⟨W,hW⟩:∃W,w.alloc (.cells #[.int .u8 (n:Int),.int .u8 ((n:Int) / 256)] 5)=W:=⟨_,rfl⟩;have CB:(convert 99 9 (.slice (some ⟨w.heap.size,0,none⟩) 2 2)).run Tryz.prog W = .ok (.string Lbl) W:=by
  have h:BytesAt W w.heap.size [UInt8.ofNat n,0]:=fun j hj=>by
   have hj2:j=0\/j=1:=by simp at hj;omega
   rw[<-hW];rcases hj2 with rfl|rfl
   ·refine⟨?_,by simp[go_sem]⟩
    rw[World.cell?_alloc_new];simp[UInt8.toNat_ofNat',Nat.mod_eq_of_lt hn]
   ·refine⟨?_,by simp[go_sem]⟩
    rw[World.cell?_alloc_new];have:(n:Int) / 256=0:=by omega
    simp[this]
  rw[<-hLb];exact h.string rfl
 have BW:Hid (Bw w W/\Kh W):=by
  rw[<-hW];exact⟨(Below.refl _ _).alloc (Nat.le_refl _) _,hK.out.alloc _⟩
 rw[hSD] at DV;rw[hPK];clear hLb hSD hQA hQB hPK CM zS zQ zQ2;have hn':n < 256:=hn;go_enter Tryz.func25, Tryz.ntmps25;go_wp2_with fail;refine Calls.mono (DV.out _ BW.out.2) ?_;rintro e w1 ⟨rfl,hb⟩;have B1:Hid (Bw w w1):=chain BW.out.1 hb;clear hb DV CB hW BW;go_wp2_with fail;refine Calls.mono (V4.out _ (hK.out.later B1.out)) ?_;rintro e w2 ⟨rfl,hb⟩;have B2:Hid (Bw w w2):=chain B1.out hb;clear hb V4 B1;go_wp2_with fail;refine Calls.mono (V5.out _ (hK.out.later B2.out)) ?_;rintro e w3 ⟨rfl,hb⟩;have B3:Hid (Bw w w3):=chain B2.out hb;clear hb V5 B2;go_wp2_with fail;have BA:Hid (Bw w ((w3.alloc (.cells #[.string QA,.string QB] 9)).alloc (.cells #[.int .i64 1,.int .i64 7,.int .i64 0,.int .i64 (d:Int),.string ⟨#[]⟩,.int .i64 4,.int .i64 0,.int .i64 0,.int .i64 0,.string ⟨#[]⟩] 82))):=(B3.out.alloc B3.out.size _).alloc (by have:=B3.out.size;simp;omega) _;have HW:∀(w:World) (t:TypeId) (g:Nat),g=w.heap.size->zbk (w.alloc (.cells #[.int .i64 1,.int .i64 7,.int .i64 0,.int .i64 (d:Int),.string ⟨#[]⟩,.int .i64 4,.int .i64 0,.int .i64 0,.int .i64 0,.string ⟨#[]⟩] t)) (some ⟨g,0,none⟩) (zbv d):=fun w t g hg=>by
  subst hg;exact zoK w t ⟨1,7,0,(d:Int),⟨#[]⟩⟩ ⟨4,0,0,0,⟨#[]⟩⟩
 refine Calls.mono (M1.out _ _ _ (hK.out.later BA.out) (by simp[go_sem]) (by simp[go_sem]) (HW _ _ _ (by simp[go_sem]))) ?_;rintro e w4 ⟨⟨z,rfl⟩,hb⟩;have FF:Hid (Bw w w4):=chain BA.out hb;clear hb M1 BA B3;go_wp2;go_ret;exact⟨rfl,FF.out⟩
theorem zm6 (n:Nat):(zeM n).size=32:=by
 show (drv zgN.data.toList (zj7 n).data.toList 32).toArray.size=32;unfold drv;simp[zbF]
theorem zqc (d:Nat) (hd:d<=4096):pth (zbv d)=0:=by
 have h1:(zbv d).all Rt.ok=true:=by
  have e:(d:Int)<=4096:=by omega
  simp[zbv,Rt.ok,e]
  first
  | done
  | rfl
  | decide
 have h2:shp (zbv d)=true:=rfl;unfold pth;rw[if_pos h1,if_neg (by show ¬((2:Nat)=0\/5 < 2);omega),if_pos h2]
def ppD (p b:Ba):(Hp×Ba×Ba×Ba)×Int :=
 if b.size=504 then (match hpl p (b.extract 0 248) with
  | .error e=>((zh,⟨#[]⟩,⟨#[]⟩,⟨#[]⟩),e)
  | .ok (x,n,s)=>if x.k=1 then ((x,⟨(n.data.toList++zaV (bdy s).data.toList (b.data.toList.drop 248)).toArray⟩,rtg s,⟨#[]⟩),0)
   else (match zbg (zaV (bdy s).data.toList (b.data.toList.drop 248)) with
    | none=>((zh,⟨#[]⟩,⟨#[]⟩,⟨#[]⟩),90)
    | some t=>((x,⟨#[]⟩,rtg s,⟨t.toArray⟩),0)))
 else ((zh,⟨#[]⟩,⟨#[]⟩,⟨#[]⟩),3)
theorem zm7 (p b:Ba):ppV p b=#[pdv (ppD p b).1.1 (ppD p b).1.2.1 (ppD p b).1.2.2.1 (ppD p b).1.2.2.2,.int .i64 (ppD p b).2]:=by
 unfold ppV ppD;by_cases hz:b.size=504
 ·simp only[if_pos hz]
  cases hpl p (b.extract 0 248) with
  | error e=>rfl
  | ok z =>
   obtain⟨x,n,s⟩:=z;by_cases hk:x.k=1
   ·simp only[if_pos hk]
   ·simp only[if_neg hk]
    cases zbg (zaV (bdy s).data.toList (b.data.toList.drop 248)) with
    | none=>rfl
    | some t=>rfl
 ·simp only[if_neg hz]
  rfl
theorem ztj {p h:Ba} {x:Hp} {n s:Ba} (e:hpl p h = .ok (x,n,s)):ok x=true:=by
 unfold hpl at e
 split at e
 ·split at e
  ·cases e
  ·split at e
   ·split at e
    ·cases e
    ·rename_i y hy
     injection e with e
     injection e with e _
     rw[<-e];exact (zoI _ _ hy).1
   ·cases e
 ·cases e
theorem ztk (p b:Ba):(ppD p b).1.1.k=1->0<=(ppD p b).1.1.d/\(ppD p b).1.1.d<=4096:=by
 have hz:zh.k=1->0<=zh.d/\zh.d<=4096:=fun _=>by decide
 unfold ppD
 split
 ·split
  ·exact hz
  ·rename_i x n s hx
   split
   ·intro hk
    rcases zcC x (ztj hx) with h|h|h|h
    ·exact⟨h.2.2.2.1,h.2.2.2.2.1⟩
    ·have h1:=h.1;have h2:x.k=1:=hk;omega
    ·have h1:=h.1;have h2:x.k=1:=hk;omega
    ·have h1:=h.1;have h2:x.k=1:=hk;omega
   ·rename_i hk
    split
    ·exact hz
    ·exact fun h=>absurd h hk
 ·exact hz
def Nd.takeP (nd:Nd) (key P:Ba):Int×Nd:=nd.take (ppD key P).2 (ppD key P).1.1 (ppD key P).1.2.1 (ppD key P).1.2.2.1
theorem zj8 (CL:Hid zdj) (w wr:World) (p m:Nat) (key P:Ba) (zk:key.size=32) (zP:P.size<=140737488355328) (nd:Nd) (lab:Nat->Nat) (F:Nat->Prop) (q:Nat) (v:Value) (b:Nat) (va vh:Value) (pw:Nat) (G:Nat->Prop) (bm:Nat) (D:DataW Unit) (vl:Value)
  (B:Nb nd) (hk:Hid (Kh w)) (H:Hid (Nr w wr p m key nd lab F q v b va vh pw G bm D vl)) :
  Cl 24 #[.pointer (some ⟨m,0,none⟩),.string P] wr fun e w'=>e = .returned (.int .i64 (nd.takeP key P).1)/\Na w p m key (nd.takeP key P).2 wr lab w' :=
 zmW w wr p m key P nd lab F q v b va vh pw G bm D vl (ppD key P).1.1 (ppD key P).1.2.1 (ppD key P).1.2.2.1 (ppD key P).1.2.2.2 (ppD key P).2 (ztk key P) B hk
  (fun W hb=>by
   have:=CL.out key P W (by show key.size<=_;omega) zP (hk.out.later (H.out.pz.lz.hd_.dl.below.trans (hb.mono H.out.nw)));rw[zm7] at this;exact this) H
end Go.Proofs.YtjcppbhgjchjaaaGreatDoor
namespace Go.Proofs.Lg
open Go.Proofs.Dk
def zf:Nat->Bs:=fun _=>zr 64
def Im (n:Nat) (ts:List Bs):Nat->Bs:=bgf 0 (n / 2) (hd 1++rcs (hm 1) ts) zf
theorem zi8:∀(l:List Bs) (a t:Bs),rcs a (l++[t])=rcs a l++rcd (mks a l) t
 | [],a,t=>by
  show rcd a t++[]=[]++rcd a t;simp
 | x::l,a,t=>by
  show rcd a x++rcs (rmk a x) (l++[t])=rcd a x++rcs (rmk a x) l++rcd (mks (rmk a x) l) t;rw[zi8 l,List.append_assoc]
theorem zvw (ts:List Bs):(hd 1++rcs (hm 1) ts).length=64*(1+sns ts):=by
 rw[List.length_append,zdh,zhD];omega
theorem ztl (n:Nat) (ts:List Bs) (t:Bs):lay (Im n ts) (wts (1+sns ts) (chs (sn t) (rcd (mks (hm 1) ts) t)))=Im n (ts++[t]):=by
 have e1:=zvw ts;have e2:=zbs (mks (hm 1) ts) t;unfold Im bgf;rw[<-zfq,zi8,<-List.append_assoc,@List.length_append _ (hd 1++rcs (hm 1) ts) _,e1,e2,show 64*(1+sns ts) / 64=1+sns ts by omega,show (64*(1+sns ts)+64*sn t) / 64=1+sns ts+sn t by omega,
  zfs (1+sns ts) (hd 1++rcs (hm 1) ts) (rcd (mks (hm 1) ts) t) (sn t) e1,zfr,zc7,Nat.zero_add]
theorem im_new (n:Nat) (hH:2<=n / 2):opn (up n zf [])=((0,up n (Im n []) []),⟨0,1,[]⟩):=zmt zf (fun _=>rfl) hH
theorem im_app (n:Nat) (ts:List Bs) (t:Bs) (hm1:may t=0) (hs:1+sns ts+sn t<=n / 2):app (up n (Im n ts) []) ⟨0,1,ts⟩ t=((0,up n (Im n ts) (wts (1+sns ts) (chs (sn t) (rcd (mks (hm 1) ts) t)))),⟨0,1,ts++[t]⟩):=by
 have ek:(⟨0,1,ts⟩:Lo).tk=1+sns ts:=zb1 ts 1;have ew:=zsS (zbs (mks (hm 1) ts) t) (n:=n) (k:=0*(n / 2)+(1+sns ts)) (by omega) (Im n ts) [];unfold app;rw[ek,if_neg (by rw[hm1];simp),if_neg (by show ¬n / 2 < 1+sns ts+sn t;omega)];show (wrb (up n (Im n ts) []) (0*(n / 2)+(1+sns ts)) (rcd (mks (hm 1) ts) t),if (wrb (up n (Im n ts) []) (0*(n / 2)+(1+sns ts)) (rcd (mks (hm 1) ts) t)).1=0 then _ else _)=_
 rw[ew,if_pos rfl,Nat.zero_mul,Nat.zero_add,List.nil_append]
theorem im_sync (n:Nat) (ts:List Bs) (t:Bs):syE (up n (Im n ts) (wts (1+sns ts) (chs (sn t) (rcd (mks (hm 1) ts) t))))=0/\syS (up n (Im n ts) (wts (1+sns ts) (chs (sn t) (rcd (mks (hm 1) ts) t))))=up n (Im n (ts++[t])) []:=by
 obtain⟨h1,h2⟩:=zw2 n (Im n ts) (wts (1+sns ts) (chs (sn t) (rcd (mks (hm 1) ts) t)));rw[ztl] at h2;exact⟨h1,h2⟩
def tgr (l:List Bs):List Bs:=l.map (84::·)
theorem tgr_snoc (l:List Bs) (t:Bs):tgr (l++[t])=tgr l++[84::t]:=by unfold tgr;rw[List.map_append];rfl
theorem sn_tag {t:Bs} (h:t.length=16):sn (84::t)=1:=by unfold sn;rw[List.length_cons,h]
theorem sns_tgr:∀(l:List Bs),(∀t∈l,t.length=16)->sns (tgr l)=l.length
 | [],_=>rfl
 | t::l,h=>by
  show sn (84::t)+sns (tgr l)=l.length+1;rw[sn_tag (h t (List.mem_cons_self ..)),sns_tgr l (fun x hx=>h x (List.mem_cons_of_mem _ hx))];omega
theorem tgr_may {t:Bs} (h:t.length=16):may (84::t)=0:=by unfold may;rw[List.length_cons,h];rfl
end Go.Proofs.Lg
