/- A part of the walk. -/
import Derived.Test.YtjcppbhgjchjaaaGreatDoorZr3G12
import Derived.Lib.AppendZerosOnto
import Derived.Laws.OwnMore
set_option maxHeartbeats 8000000
set_option maxRecDepth 20000
namespace Go.Proofs.YtjcppbhgjchjaaaGreatDoor
open Go.RowKit Go.Proofs.Fd Go.Proofs.Hs
def IntAt (w:Wo) (a:Option Addr) (cs:List Int):Prop:=∀i (hi:i < cs.length),∃b o,a=some ⟨b,o,none⟩/\w.cell? ⟨b,o+i,none⟩=some (.int .i64 cs[i])
theorem IntAt.later {W w1:Wo} {a:Option Addr} {cs:List Int} (h:IntAt W a cs) (hb:Bw W w1):IntAt w1 a cs:=fun i hi=>by
 obtain⟨b,o,e,hc⟩:=h i hi;exact⟨b,o,e,cell_later hb hc⟩
def zbb (l:List Ba):List Value:=l.map fun s => .string s
theorem zeX:(Tryz.prog.info? 9).map (fun i=>(i.zero,i.size,i.bytes))=some (some (.string ⟨#[]⟩),1,16):=by kernel_rfl
theorem zhO {w:Wo} {base n:Nat} {v:Value} {l:List Ba} (h:w.ownsRow base 9 1 v n (zbb l)):l.length=n/\((v = .slice none 0 0/\n=0)\/∃g cap,v = .slice (some ⟨g,0,none⟩) n cap/\StrAt w (some ⟨g,0,none⟩) l):=by
 obtain⟨h1,h2⟩:=h;have hl:l.length=n:=by simpa[zbb] using h1
 refine⟨hl,?_⟩;rcases h2 with h2|⟨g,cap,cur,rfl,-,hh,-,-,-,ht⟩
 ·exact .inl h2
 ·refine .inr ⟨g,cap,rfl,fun j hj=>⟨g,0,rfl,?_⟩⟩
  have e:cur[j]?=(zbb l)[j]?:=by
   rw[<-ht,List.getElem?_take_of_lt (by omega)];simp
  rw[Nat.zero_add];unfold World.cell?;rw[hh];simp only[Option.isSome_none];show cur[j]?=_
  rw[e];simp[zbb,hj]
theorem zke (n:Nat) (h0:0 < n) (hb:n*16<=140737488355328) (w:Wo) :
  Cl 255 #[.slice none 0 0,.int .i64 (n:Int)] w fun e w'=>∃cap,e = .returned (.slice (some ⟨w.heap.size,0,none⟩) 0 cap)/\w'.ownsRow w.heap.size 9 1 (.slice (some ⟨w.heap.size,0,none⟩) 0 cap) 0 []/\Bw w w':=by
 obtain⟨i0,hi,hz0,hz1,hz2⟩:=info_parts zeX;have hr:∀ty,(Builtin.append_ #[25, 3] ty #[.slice none 0 0,.int .i64 (n:Int)]).run Tryz.prog w = .ok (.slice (some ⟨w.heap.size,0,none⟩) n (grownCap w n 0 9)) (w.drew.alloc (.cells (([]:List Value).toArray++Builtin.zeroCells (Value.string ⟨#[]⟩).cells n++Builtin.zeroCells (Value.string ⟨#[]⟩).cells (grownCap w n 0 9 - n)) 9)):=fun ty=>by
  have h:=Go.Lib.run_append_grow_zeros w 25 3 ty 9 i0 (.string ⟨#[]⟩) .i64 .i64 Tryz.underlying25 Tryz.underlying3 hi hz0 none 0 0 [] (run_firstCells_none w.drew _ 0 0 0) n h0 (by rw[hz1];decide) (by omega) (by omega) (by rw[hz2];omega) (by rw[hz2,Nat.zero_add];exact growslice_fits h0 hb);rw[Nat.zero_add] at h;exact h
 have OW:Hid ((w.drew.alloc (.cells (([]:List Value).toArray++Builtin.zeroCells (Value.string ⟨#[]⟩).cells n++Builtin.zeroCells (Value.string ⟨#[]⟩).cells (grownCap w n 0 9 - n)) 9)).ownsRow w.heap.size 9 1 (.slice (some ⟨w.heap.size,0,none⟩) 0 (grownCap w n 0 9)) 0 []/\Bw w (w.drew.alloc (.cells (([]:List Value).toArray++Builtin.zeroCells (Value.string ⟨#[]⟩).cells n++Builtin.zeroCells (Value.string ⟨#[]⟩).cells (grownCap w n 0 9 - n)) 9))):=by
  refine⟨World.ownsRow_made w.drew _ _ (nL _) (grownCap_le_maxLen w n 0 _ (by unfold maxLen;omega)) ?_,(bQ _ _).drew.alloc (nL _) _⟩;have:=grownCap_ge w n 0 9;rw[Array.size_append,Array.size_append,size_zeroCells,size_zeroCells];show 0+n*1+(grownCap w n 0 9 - n)*1=grownCap w n 0 9 * 1
  omega
 have hG:n<=grownCap w n 0 9 := grownCap_ge w _ _ _;have hG63:grownCap w n 0 9 <= 9223372036854775807:=by
  have:=grownCap_le_maxLen w n 0 9 (by unfold maxLen;omega);unfold maxLen at this;omega
 generalize grownCap w n 0 9 = G at *;generalize w.drew.alloc (.cells (([]:List Value).toArray++Builtin.zeroCells (Value.string ⟨#[]⟩).cells n++Builtin.zeroCells (Value.string ⟨#[]⟩).cells (G - n)) 9)=W at *;have g1:¬((n:Int) < 0):=by omega
 have g2:(0:Int) < (n:Int):=by omega
 go_enter Tryz.func255, Tryz.ntmps255;go_wp2_with (at_builtin;refine Go.Lib.wpList_append_run _ rfl _ _ _ _ rfl _ _ rfl rfl _ _ (hr _) ?_)
 all_goals
  go_ret;exact⟨G,rfl,OW.out⟩
theorem zeY (base:Nat) (ty:TypeId) (w:Wo) (v:Value) (n cap:Nat) (xs:List Value) (hown:w.ownsRow base 9 1 v n xs) :
  (Builtin.append_ #[25, 25] ty #[v,.slice none 0 cap]).run Tryz.prog w = .ok v w:=by
 obtain⟨i0,hi,hz0,hz1,hz2⟩:=info_parts zeX;rcases hown.2 with ⟨rfl,rfl⟩|⟨g,c,cur,rfl,_,_,hnc,_⟩
 ·simp[Builtin.append_,run_underlying Tryz.underlying25, sizeOf,typeInfo,hi,Builtin.lenOf,Builtin.firstCells]
 ·simp[Builtin.append_,run_underlying Tryz.underlying25, sizeOf,typeInfo,hi,Builtin.lenOf,Builtin.firstCells,hnc,storeCells]
theorem zgH (B b1:Nat) (x:Ba) (a:Option Addr) (ks:List Ba) (n cap:Nat) (hn:Hid (ks.length=n)) (hb:Hid (n*16+1024<=140737488355328)) (w:Wo)
  (c0:Hid (w.cell? ⟨B,0,none⟩=some (.slice (some ⟨b1,0,none⟩) 1 1))) (c1:Hid (w.cell? ⟨B,1,none⟩=some (.slice a n cap))) (cx:Hid (w.cell? ⟨b1,0,none⟩=some (.string x))) (hs:Hid (StrAt w a ks)) :
  Cl 175 #[.slice (some ⟨B,0,none⟩) 2 2] w fun e w'=>∃g cap',e = .returned (.slice (some ⟨g,0,none⟩) (n+1) cap')/\StrAt w' (some ⟨g,0,none⟩) (x::ks)/\Bw w w':=by
 have hb47:n<=9000000000000:=by have:=hb.out;omega
 obtain⟨i0,hi,hz0,hz1,hz2⟩:=info_parts zeX;go_enter Tryz.func175, Tryz.ntmps175;go_wp2;go_loopw [3,11] (fun sz i wr=>∃k:Nat,(k=0/\sz = .int .i64 0\/k=1/\sz = .int .i64 1\/k=2/\sz = .int .i64 ((n+1:Nat):Int))/\i = .int .i64 (k:Int)/\w=wr) (fun _ i _=>2 - (intOf i).toNat)
 case atStart=>exact⟨0,.inl ⟨rfl,rfl⟩,rfl,rfl⟩
 case round =>
  obtain⟨k,hk,rfl,rfl⟩:=hrel;rcases hk with ⟨rfl,rfl⟩|⟨rfl,rfl⟩|⟨rfl,rfl⟩
  ·have cc:=c0.out
   go_wp2;go_roundw
   case rel=>exact⟨1,.inr (.inl ⟨rfl,by go_num⟩),by go_num,trivial⟩
   case measure=>simp[intOf]
  ·have cc:=c1.out
   have e1:IntKind.i64.wrap (1+(n:Int))=(n:Int)+1:=by rw[IntKind.wrap_i64];omega
   have g1:¬((n:Int)+1 < 0):=by omega
   go_wp2;go_roundw
   case rel=>exact⟨2,.inr (.inr ⟨rfl,by go_num⟩),by go_num,trivial⟩
   case measure=>simp[intOf]
  ·go_wp2_with fail
   refine cM (zke (n+1) (by omega) (by have:=hb.out;omega) _) ?_;rintro e w1 ⟨cp,rfl,ow,hb1⟩;have OW:Hid (w1.ownsRow w.heap.size 9 1 (.slice (some ⟨w.heap.size,0,none⟩) 0 cp) 0 []/\Bw w w1):=⟨ow,hb1⟩;clear ow hb1;go_wp2;go_loopw [6,27] (fun sl i wx=>∃k:Nat,k<=2/\i = .int .i64 (k:Int)/\Hid ((k=0/\wx.ownsRow w.heap.size 9 1 sl 0 []\/k=1/\wx.ownsRow w.heap.size 9 1 sl 1 [.string x]\/k=2/\wx.ownsRow w.heap.size 9 1 sl (n+1) (zbb (x::ks)))/\Bw w wx)) (fun _ i _=>2 - (intOf i).toNat)
   case atStart=>exact⟨0,by omega,rfl,.inl ⟨rfl,OW.out.1⟩,OW.out.2⟩
   case round =>
    obtain⟨k,hk2,rfl,J⟩:=hrel;clear OW;obtain⟨J1,J2⟩:=J.out;clear J;rcases J1 with ⟨rfl,ow⟩|⟨rfl,ow⟩|⟨rfl,ow⟩
    ·have cc:=cell_later J2 c0.out
     have cn:∀(j:Nat) (u:Value),([Value.string x]:List Value)[j]?=some u->wr.cell? ((⟨b1,0,none⟩:Addr).add j)=some u:=fun j u hj=>by
      obtain⟨rfl,rfl⟩:j=0/\u = .string x:=by
       cases j with
       | zero=>simp at hj;exact⟨rfl,hj.symm⟩
       | succ j=>simp at hj
      rw[Addr.add_mid];exact cell_later J2 cx.out
     have I:Hid (wr.ownsRow w.heap.size 9 1 _ 0 []/\Bw w wr):=⟨ow,J2⟩;have CN:Hid (∀(j:Nat) (u:Value),([Value.string x]:List Value)[j]?=some u->wr.cell? ((⟨b1,0,none⟩:Addr).add j)=some u):=cn;clear ow J2 cn;go_wp2_with (first
      | (at_builtin;refine wpList_append_own _ rfl _ _ 25 rfl w.heap.size 9 i0 (.string ⟨#[]⟩) 1 16 Tryz.underlying25 hi hz0 hz1 hz2 rfl (by decide) _ _ _ rfl I.out.1 ⟨b1,0,none⟩ 1 1 [.string x] rfl rfl CN.out (by intro v hv;simp at hv;subst hv;rfl) (by unfold maxLen;omega) (by omega) I.out.2.size ?_;intro v1 w2 hown1 hgrow1 hnil1;simp only[Nat.zero_add,List.nil_append] at hown1))
     go_roundw
     case rel=>exact⟨1,by omega,by go_num,.inr (.inl ⟨rfl,hown1⟩),I.out.2.grown hgrow1 I.out.2.size (fun q hq=>(I.out.1.lt q hq).1)⟩
     case measure=>simp[intOf]
    ·have cc:=cell_later J2 c1.out
     have I:Hid (wr.ownsRow w.heap.size 9 1 _ 1 [.string x]/\Bw w wr):=⟨ow,J2⟩;have SA:=StrAt.later hs.out J2 rfl;clear ow J2;cases a with
     | none =>
      have hn0:ks=[]:=by
       cases ks with
       | nil=>rfl
       | cons k r=>obtain⟨b,o,e,-⟩:=SA 0 (by simp);cases e
      subst hn0;have HN:Hid (n=0):=by have:=hn.out;show n=0;simpa using this.symm
      have AN:Hid (∀ty cap,(Builtin.append_ #[25, 25] ty #[_,.slice none n cap]).run Tryz.prog wr = .ok _ wr):=fun ty cap=>by rw[HN.out];exact zeY _ ty wr _ 1 cap _ I.out.1
      go_wp2_with (first|(at_builtin;refine Go.Lib.wpList_append_run _ rfl _ _ _ _ rfl _ _ rfl rfl _ _ (AN.out _ _) ?_));go_roundw
      case rel=>exact⟨2,by omega,by go_num,.inr (.inr ⟨rfl,by rw[HN.out];exact I.out.1⟩),I.out.2⟩
      case measure=>simp[intOf]
     | some ad =>
      have CN:Hid (∀(j:Nat) (u:Value),(zbb ks)[j]?=some u->wr.cell? (ad.add j)=some u):=fun j u hj=>by
       have hj':j < ks.length:=by
        have:=(List.getElem?_eq_some_iff.1 hj).1
        simpa[zbb] using this
       obtain⟨b,o,e,hc⟩:=SA j hj';obtain rfl:=Option.some.inj e;rw[Addr.add_mid,hc];simp[zbb,hj'] at hj;rw[hj]
      clear SA;go_wp2_with (first
       | (at_builtin;refine wpList_append_own _ rfl _ _ 25 rfl w.heap.size 9 i0 (.string ⟨#[]⟩) 1 16 Tryz.underlying25 hi hz0 hz1 hz2 rfl (by decide) _ _ _ rfl I.out.1 ad n cap (zbb ks) rfl (by rw[Nat.mul_one];simpa[zbb] using hn.out) CN.out (by intro v hv;simp only[zbb,List.mem_map] at hv;obtain⟨x,-,rfl⟩:=hv;rfl) (by unfold maxLen;omega) (by have:=hb.out;omega) I.out.2.size ?_;intro v1 w2 hown1 hgrow1 hnil1))
      go_roundw
      case rel=>exact⟨2,by omega,by go_num,.inr (.inr ⟨rfl,by rw[Nat.add_comm 1 n] at hown1;exact hown1⟩),I.out.2.grown hgrow1 I.out.2.size (fun q hq=>(I.out.1.lt q hq).1)⟩
      case measure=>simp[intOf]
    ·obtain⟨hl1,h2⟩:=zhO ow
     rcases h2 with ⟨rfl,h3⟩|⟨g,cap',rfl,h3⟩
     ·omega
     ·have J3:Hid (StrAt wr (some ⟨g,0,none⟩) (x::ks)/\Bw w wr):=⟨h3,J2⟩
      clear ow J2 h3;go_wp2;go_ret;exact⟨g,cap',rfl,J3.out⟩
end Go.Proofs.YtjcppbhgjchjaaaGreatDoor
