/- Parts: HL6,PkA,PkH,PkR,PkL4,PkP0. -/
import Derived.Test.YtgnkkjknngblbaaGreatDoorZmG36
import Derived.Test.YtgnkkjknngblbaaGreatDoorZmG39
import Derived.Test.YtgnkkjknngblbaaGreatDoorZmG30
import Derived.Lib.AppendZerosOnto
import Derived.Deep.RegionHeld3
import Derived.Test.YtgnkkjknngblbaaGreatDoorZmG37
import Derived.Test.YtgnkkjknngblbaaGreatDoorZmG38
import Derived.Test.YtgnkkjknngblbaaGreatDoorZmG33
namespace Go.Proofs.YtgnkkjknngblbaaGreatDoor
open Go.RowKit Go.Proofs.Fd Go.Proofs.Hs Go.Proofs.Cc Go.Proofs.Hd Go.Proofs.Rt
set_option maxRecDepth 20000
theorem strs_each {w:World} {b o:Nat} {ks:List ByteArray} (hc:StrAt w (some ⟨b,o,none⟩) ks):∀j v,(scells ks)[j]?=some v→w.cell? (Addr.add ⟨b,o,none⟩ j)=some v:=by
 intro j v hv
 have hj:j < ks.length:=by have:=(List.getElem?_eq_some_iff.1 hv).1;simpa[scells] using this
 obtain⟨b2,o2,he2,hcell⟩:=hc j hj
 cases he2
 have q:Addr.add ⟨b,o,none⟩ j=⟨b,o+j,none⟩:=by first|(simp[Addr.add];done)|(simp[Addr.add];intro h;simp[h])
 rw[q]
 have e:v = .string ks[j]:=by
  rw[show (scells ks)[j]?=some (.string ks[j]) by simp[scells,hj]] at hv
  exact (Option.some.inj hv).symm
 rw[e]
 exact hcell
end Go.Proofs.YtgnkkjknngblbaaGreatDoor
namespace Go.Proofs.YtgnkkjknngblbaaGreatDoor
open Go.RowKit Go.Proofs.Fd Go.Proofs.Hs Go.Proofs.Cc Go.Proofs.Hd Go.Proofs.Rt Go.Proofs.Wd
set_option maxRecDepth 20000
theorem grownBy_same (w:World) (row:Option Nat):w.grownBy w row:=⟨rfl,rfl,rfl,Nat.le_refl _,fun _ _ _=>rfl⟩
theorem own_slice {w:World} {base n size:Nat} {e:TypeId} {v:Value} {xs:List Value} (h:w.ownsRow base e size v n xs):∃x c,v = .slice x n c:=by
 rcases h.2 with ⟨rfl,rfl⟩|⟨g,cap,cur,rfl,-⟩
 ·exact⟨_,_,rfl⟩
 ·exact⟨_,_,rfl⟩
theorem own_unlike {w:World} {b1 b2 s1 s2 n1 n2:Nat} {e1 e2:TypeId} {v1 v2:Value} {l1 l2:List Value} (h1:w.ownsRow b1 e1 s1 v1 n1 l1) (h2:w.ownsRow b2 e2 s2 v2 n2 l2) (he:e1≠e2):v1.ownBlock=none∨v1.ownBlock≠v2.ownBlock:=by
 rcases h1.2 with ⟨rfl,-⟩|⟨g1,c1,a1,rfl,-,q1,-⟩
 ·exact .inl rfl
 ·right
  rcases h2.2 with ⟨rfl,-⟩|⟨g2,c2,a2,rfl,-,q2,-⟩
  ·intro h;cases h
  ·intro h
   simp[Value.ownBlock] at h
   subst h
   rw[q1] at q2
   cases q2
   exact he rfl
theorem app_strs {W:World} {base g:Nat} (hown:W.ownsRow base 9 1 (.slice (some ⟨g,0,none⟩) 0 0) 0 []) (hbase:base≤W.heap.size) (a:Option Addr) (pts:List ByteArray) (n cap:Nat) (hn:pts.length=n) (hb:n*16≤140737488351232) (hc:StrAt W a pts) (ha:a=none→n=0∧cap=0) :
  ∃x c w',(Builtin.append_ #[22, 22] 22 #[.slice (some ⟨g,0,none⟩) 0 0,.slice a n cap]).run Tryz.prog W = .ok (.slice x n c) w'∧w'.ownsRow base 9 1 (.slice x n c) n (scells pts)∧W.grownBy w' (some g):=by
 obtain⟨i0,hii,hz0,hz1,hz2⟩:=info_parts infoStr
 cases a with
 | none =>
  obtain⟨rfl,rfl⟩:=ha rfl
  obtain rfl:pts=[]:=List.eq_nil_of_length_eq_zero hn
  exact⟨some ⟨g,0,none⟩,0,W,by kernel_rfl,hown,grownBy_same _ _⟩
 | some ad =>
  have hnews:∀j u,(scells pts)[j]?=some u→W.cell? (ad.add j)=some u:=by
   cases pts with
   | nil=>intro j u hu;simp[scells] at hu
   | cons p ps =>
    obtain⟨b,o,he,-⟩:=hc 0 (by simp)
    cases he
    exact strs_each hc
  obtain⟨v',w',hr,h2,h3,h4⟩:=run_append_own (P:=Tryz.prog) W base 22 22 9 i0 (.string ⟨#[]⟩) 1 16 Tryz.underlying22 hii hz0 hz1 hz2 rfl (by decide) _ 0 [] hown ad n cap (scells pts) (by rw[Nat.mul_one];simpa[scells] using hn) hnews (by intro v hv;simp only[scells,List.mem_map] at hv;obtain⟨x,-,rfl⟩:=hv;rfl) (by unfold maxLen;omega) (by omega) hbase
  simp only[Nat.zero_add,List.nil_append] at h2
  obtain⟨x,c,rfl⟩:=own_slice h2
  exact⟨x,c,w',hr,h2,h3⟩
theorem app_hops {W:World} {base g:Nat} (hown:W.ownsRow base 34 5 (.slice (some ⟨g,0,none⟩) 0 0) 0 []) (hbase:base≤W.heap.size) (a:Option Addr) (hs:List Hp) (n cap:Nat) (hn:hs.length=n) (hb:n*48≤140737488351232) (hc:HopsAt W a hs) (ha:a=none→n=0∧cap=0) :
  ∃x c w',(Builtin.append_ #[23, 23] 23 #[.slice (some ⟨g,0,none⟩) 0 0,.slice a n cap]).run Tryz.prog W = .ok (.slice x n c) w'∧w'.ownsRow base 34 5 (.slice x n c) n (hcells hs)∧W.grownBy w' (some g):=by
 obtain⟨i0,hii,hz0,hz1,hz2⟩:=info_parts infoHop
 cases a with
 | none =>
  obtain⟨rfl,rfl⟩:=ha rfl
  obtain rfl:hs=[]:=List.eq_nil_of_length_eq_zero hn
  exact⟨some ⟨g,0,none⟩,0,W,by kernel_rfl,hown,grownBy_same _ _⟩
 | some ad =>
  have hnews:∀j u,(hcells hs)[j]?=some u→W.cell? (ad.add j)=some u:=by
   cases hs with
   | nil=>intro j u hu;simp[hcells] at hu
   | cons p ps =>
    obtain⟨b,o,he,-⟩:=hc 0 (by simp)
    cases he
    exact hc.each
  obtain⟨v',w',hr,h2,h3,h4⟩:=run_append_own (P:=Tryz.prog) W base 23 23 34 i0 (.agg #[.int .i64 0,.int .i64 0,.int .i64 0,.int .i64 0,.string ⟨#[]⟩]) 5 48 Tryz.underlying23 hii hz0 hz1 hz2 rfl (by decide) _ 0 [] hown ad n cap (hcells hs) (by rw[hcells_len,hn]) hnews (hcells_one hs) (by unfold maxLen;omega) (by omega) hbase
  simp only[Nat.zero_add,List.nil_append] at h2
  obtain⟨x,c,rfl⟩:=own_slice h2
  exact⟨x,c,w',hr,h2,h3⟩
theorem own_strAt {w:World} {base n c:Nat} {x:Option Addr} {pts:List ByteArray} (h:w.ownsRow base 9 1 (.slice x n c) n (scells pts)):StrAt w x pts:=by
 obtain⟨h0,hor⟩:=owns_strs h
 rcases hor with ⟨e,rfl⟩|⟨g,c',e,hst⟩
 ·obtain rfl:pts=[]:=List.eq_nil_of_length_eq_zero h0
  exact fun i hi=>by simp at hi
 ·cases e;exact hst
theorem own_hopsAt {w:World} {base n c:Nat} {x:Option Addr} {hs:List Hp} (h:w.ownsRow base 34 5 (.slice x n c) n (hcells hs)):HopsAt w x hs:=by
 obtain⟨h0,hor⟩:=owns_hops h
 rcases hor with ⟨e,rfl⟩|⟨g,c',e,hst,-⟩
 ·obtain rfl:hs=[]:=List.eq_nil_of_length_eq_zero h0
  exact fun i hi=>by simp at hi
 ·cases e;exact hst
def Sts (w W:World) (g4:Nat) (va vb:Value) (pts:List ByteArray) (n:Nat) (o13:Option Nat) (o16:Option Value) (o18:Option Nat):Prop :=
 W.ownsRow w.heap.size 25 1 (.slice (some ⟨g4,0,none⟩) 2 2) 2 [va,vb]∧Below w.heap.size w W
  ∧ (∀g,o13=some g→W.ownsRow w.heap.size 9 1 (.slice (some ⟨g,0,none⟩) 0 0) 0 [])∧(∀v,o16=some v→W.ownsRow w.heap.size 9 1 v n (scells pts))
  ∧ (∀g,o18=some g→W.ownsRow w.heap.size 34 5 (.slice (some ⟨g,0,none⟩) 0 0) 0 [])
section
variable {w W W':World} {g4:Nat} {va vb:Value} {pts:List ByteArray} {n:Nat} {o13:Option Nat} {o16:Option Value} {o18:Option Nat}
theorem Sts.later (h:Sts w W g4 va vb pts n o13 o16 o18) (hb:Below W.heap.size W W'):Sts w W' g4 va vb pts n o13 o16 o18 :=
 ⟨own8 h.1 hb,chain h.2.1 hb,fun g q=>own8 (h.2.2.1 g q) hb,fun v q=>own8 (h.2.2.2.1 v q) hb,fun g q=>own8 (h.2.2.2.2 g q) hb⟩
theorem Sts.cells (h:Sts w W g4 va vb pts n o13 o16 o18):W.cell? ⟨g4,0,none⟩=some va∧W.cell? ⟨g4,1,none⟩=some vb :=
 ⟨h.1.cellAt 0 (by decide),h.1.cellAt 1 (by decide)⟩
theorem Sts.new13 (h:Sts w W g4 va vb pts n none o16 o18):Sts w (W.alloc (.cells #[] 9)) g4 va vb pts n (some W.heap.size) o16 o18:=by
 have hb:Below W.heap.size W (W.alloc (.cells #[] 9)):=(Below.refl _ _).alloc (Nat.le_refl _) _
 obtain⟨h1,h2,-,h4,h5⟩:=h.later hb
 refine⟨h1,h2,fun g q => ?_,h4,h5⟩
 cases q
 exact World.ownsRow_made W #[] 0 h.2.1.size (by decide) rfl
theorem Sts.new18 (h:Sts w W g4 va vb pts n o13 o16 none):Sts w (W.alloc (.cells #[] 34)) g4 va vb pts n o13 o16 (some W.heap.size):=by
 have hb:Below W.heap.size W (W.alloc (.cells #[] 34)):=(Below.refl _ _).alloc (Nat.le_refl _) _
 obtain⟨h1,h2,h3,h4,-⟩:=h.later hb
 refine⟨h1,h2,h3,h4,fun g q => ?_⟩
 cases q
 exact World.ownsRow_made W #[] 0 h.2.1.size (by decide) rfl
theorem Sts.app16 {g:Nat} {v:Value} (h:Sts w W g4 va vb pts n (some g) none o18) (hv:W'.ownsRow w.heap.size 9 1 v n (scells pts)) (hg:W.grownBy W' (some g)):Sts w W' g4 va vb pts n none (some v) o18:=by
 obtain⟨h1,h2,h3,h4,h5⟩:=h
 have e13:=h3 g rfl
 refine⟨h1.kept hg (own_unlike h1 e13 (by decide)),h2.grown hg h2.size (fun k hk=>(by cases hk;exact (e13.lt g rfl).1)),fun _ q=>(by cases q),fun v' q=>(by cases q;exact hv),fun g' q=>(h5 g' q).kept hg (own_unlike (h5 g' q) e13 (by decide))⟩
theorem Sts.app21 {g:Nat} {v1:Value} (h:Sts w W g4 va vb pts n none (some v1) (some g)) (hg:W.grownBy W' (some g)):Sts w W' g4 va vb pts n none (some v1) none:=by
 obtain⟨h1,h2,h3,h4,h5⟩:=h
 have e18:=h5 g rfl
 refine⟨h1.kept hg (own_unlike h1 e18 (by decide)),h2.grown hg h2.size (fun k hk=>(by cases hk;exact (e18.lt g rfl).1)),fun _ q=>(by cases q),fun v' q=>(by cases q;exact (h4 v1 rfl).kept hg (own_unlike (h4 v1 rfl) e18 (by decide))),fun _ q=>by cases q⟩
end
end Go.Proofs.YtgnkkjknngblbaaGreatDoor
namespace Go.Proofs.YtgnkkjknngblbaaGreatDoor
open Go.RowKit Go.Proofs.Fd Go.Proofs.Hs Go.Proofs.Cc Go.Proofs.Hd Go.Proofs.Rt Go.Proofs.Wd
set_option maxRecDepth 20000
theorem mk_ok (seed:ByteArray) (pts:List ByteArray) (hs:List Hp) (h:mkE seed pts hs=0):(mkH seed pts hs).size=248∧1≤(mkS seed pts hs).length∧(mkS seed pts hs).length≤5:=by
 have eH:mkH seed pts hs=⟨(hhead seed (mkS seed pts hs) hs 0).toArray⟩:=by unfold mkH;rw[if_pos h]
 have eS:mkS seed pts hs=(secs seed pts []).getD []:=by unfold mkS;rw[if_pos h]
 have hp:pth hs=0:=by
  unfold mkE at h
  by_cases q:pth hs=0
  ·exact q
  ·rw[if_neg q] at h;exact h
 have h':=h
 unfold mkE at h'
 rw[if_pos hp] at h'
 by_cases q2:pts.length=hs.length
 ·rw[if_pos q2] at h'
  by_cases q3:seed.size=32∧(pts.all fun p=>p.size == 32)=true
  ·rw[if_pos q3] at h'
   obtain⟨r1,r2,r3,-⟩:=pth_zero hs hp
   cases hsec:secs seed pts [] with
   | none=>rw[hsec] at h';cases h'
   | some ss =>
    have e:mkS seed pts hs=ss:=by rw[eS,hsec];rfl
    have l:ss.length=pts.length:=secsG_len _ _ _ _ _ hsec
    refine⟨?_,by rw[e];omega,by rw[e];omega⟩
    rw[eH,←Ins_all seed _ hs r2,ba_add,ptB_size,Ins_size seed _ hs r1 ⟨r2,r3⟩ _ (Nat.le_refl _)]
  ·rw[if_neg q3] at h';cases h'
 ·rw[if_neg q2] at h';cases h'
def pbd (ss:List ByteArray) (t:ByteArray) (i:Nat):ByteArray:=⟨(pld (ss.drop i) t.data.toList).toArray⟩
theorem pbd_size (ss:List ByteArray) (t:ByteArray) (i:Nat) (ht:t.size≤222):(pbd ss t i).size=256:=by unfold pbd;rw[ba_sz,pld_len _ _ (by rw[list_sz];exact ht)]
theorem drop_nth (ss:List ByteArray) (i:Nat) (hi:i < ss.length):ss.drop i=nth ss i::ss.drop (i+1):=by
 unfold nth
 rw[List.getD_eq_getElem?_getD,List.getElem?_eq_getElem hi]
 exact List.drop_eq_getElem_cons hi
theorem shV_pbd (ss:List ByteArray) (t:ByteArray) (i:Nat) (hi:i < ss.length) (ht:t.size≤222):shV (hdk (nth ss i) lBody 32) (pbd ss t (i+1))=#[.string (pbd ss t i),.int .i64 0]:=by
 rw[shV_ok _ _ (by rw[pbd_size _ _ _ ht];decide) (by rw[pbd_size _ _ _ ht];decide)]
 have e:pbd ss t i=⟨(shutl (hdk (nth ss i) lBody 32).data.toList (pbd ss t (i+1)).data.toList).toArray⟩:=by
  show (⟨(pld (ss.drop i) t.data.toList).toArray⟩:ByteArray)=_
  rw[drop_nth ss i hi,pld_cons]
  rfl
 rw[←e]
theorem wrV_pbd (ss:List ByteArray) (t:ByteArray) (i:Nat) (hi:i+1=ss.length) (ht:t.size≤222):wrV (hdk (nth ss i) lBody 32) t 256=#[.string (pbd ss t i),.int .i64 0]:=by
 have h:=wrV_ok (hdk (nth ss i) lBody 32) t 256 (by decide) (by decide) (by omega)
 have e:pbd ss t i=⟨(shutl (hdk (nth ss i) lBody 32).data.toList (plainl t.data.toList 256)).toArray⟩:=by
  show (⟨(pld (ss.drop i) t.data.toList).toArray⟩:ByteArray)=_
  rw[drop_nth ss i (by omega),pld_cons,List.drop_of_length_le (by omega),pld_nil]
  rfl
 rw[e]
 exact h
theorem pm_parts (seed:ByteArray) (pts:List ByteArray) (t:ByteArray) (hs:List Hp) (h:mkE seed pts hs=0) (ht:t.size≤222):pmE seed pts t hs=0∧pmB seed pts t hs=mkH seed pts hs++pbd (mkS seed pts hs) t 0:=by
 obtain⟨h1,h2⟩:=pm_ok seed pts t hs h ht
 refine⟨h1,?_⟩
 rw[h2]
 apply ByteArray.ext
 simp[pbd]
end Go.Proofs.YtgnkkjknngblbaaGreatDoor
namespace Go.Proofs.YtgnkkjknngblbaaGreatDoor
open Go.RowKit Go.Proofs.Fd Go.Proofs.Hs Go.Proofs.Cc Go.Proofs.Hd Go.Proofs.Rt Go.Proofs.Wd
set_option maxRecDepth 20000
set_option maxHeartbeats 1000000 in
theorem rPMake_no (seed:ByteArray) (a:Option Addr) (n cap:Nat) (t:ByteArray) (b:Option Addr) (m cap2:Nat) (w:World) (H:ByteArray) (e:Int) (he:¬e=0)
  (RM:Hid (Calls Tryz.prog 18 #[.string seed,.slice a n cap,.slice b m cap2] w fun x w'=>∃v,x = .returned (.tuple #[.string H,v,.int .i64 e])∧Below w.heap.size w w')) :
  Calls Tryz.prog 9 #[.string seed,.slice a n cap,.string t,.slice b m cap2] w fun x w'=>x = .returned (.tuple #[.string ⟨#[]⟩,.int .i64 e])∧Below w.heap.size w w':=by
 go_enter Tryz.func9, Tryz.ntmps9
 go_wp2_with fail
 refine Calls.mono RM.out ?_
 rintro x w1 ⟨v,rfl,hb1⟩
 have B1:Hid (Below w.heap.size w w1):=hb1
 clear hb1 RM
 go_wp2
 go_ret2
 exact⟨rfl,B1.out⟩
set_option maxHeartbeats 1000000 in
theorem rPMake_long (seed:ByteArray) (a:Option Addr) (n cap:Nat) (t:ByteArray) (b:Option Addr) (m cap2:Nat) (w:World) (H:ByteArray) (ht:222 < t.size)
  (RM:Hid (Calls Tryz.prog 18 #[.string seed,.slice a n cap,.slice b m cap2] w fun x w'=>∃v,x = .returned (.tuple #[.string H,v,.int .i64 0])∧Below w.heap.size w w')) :
  Calls Tryz.prog 9 #[.string seed,.slice a n cap,.string t,.slice b m cap2] w fun x w'=>x = .returned (.tuple #[.string ⟨#[]⟩,.int .i64 2])∧Below w.heap.size w w':=by
 have gi:(222:Int) < (t.size:Int):=by omega
 go_enter Tryz.func9, Tryz.ntmps9
 go_wp2_with fail
 refine Calls.mono RM.out ?_
 rintro x w1 ⟨v,rfl,hb1⟩
 have B1:Hid (Below w.heap.size w w1):=hb1
 clear hb1 RM
 go_wp2
 go_ret2
 exact⟨rfl,B1.out⟩
set_option maxHeartbeats 1000000 in
theorem rPMake_ok (seed:ByteArray) (a:Option Addr) (n cap:Nat) (t:ByteArray) (b:Option Addr) (m cap2:Nat) (w:World) (H:ByteArray) (ss:List ByteArray) (ht:t.size≤222) (zH:H.size=248) (hl:1≤ss.length∧ss.length≤5)
  (RM:Hid (Calls Tryz.prog 18 #[.string seed,.slice a n cap,.slice b m cap2] w fun x w'=>∃v,x = .returned (.tuple #[.string H,v,.int .i64 0])∧KeysAt w' v ss∧Below w.heap.size w w')) :
  Calls Tryz.prog 9 #[.string seed,.slice a n cap,.string t,.slice b m cap2] w fun x w'=>x = .returned (.tuple #[.string (H++pbd ss t 0),.int .i64 0])∧Below w.heap.size w w':=by
 have gi:¬(222:Int) < (t.size:Int):=by omega
 obtain⟨L,hL⟩:∃L,ss.length=L+1:=⟨ss.length - 1,by omega⟩
 have WR:Hid (∀w,Calls Tryz.prog 19 #[.string (hdk (nth ss L) lBody 32),.string t,.int .i64 256] w fun e w'=>e = .returned (.tuple #[.string (pbd ss t L),.int .i64 0])∧Below w.heap.size w w'):=fun w=>by
  rw[←wrV_pbd ss t L hL.symm ht]
  exact rWrap_all _ _ _ (by rw[hdk_size];show (32:Nat)+64≤_;decide) w
 have SH:Hid (∀i w,i < L+1→Calls Tryz.prog 20 #[.string (hdk (nth ss i) lBody 32),.string (pbd ss t (i+1))] w fun e w'=>e = .returned (.tuple #[.string (pbd ss t i),.int .i64 0])∧Below w.heap.size w w'):=fun i w hi=>by
  rw[←shV_pbd ss t i (by omega) ht]
  exact rShut_all _ _ (by rw[hdk_size];show (32:Nat)+64≤_;decide) w
 have AD:∀w,(Op.stringOp .add H (pbd ss t 0)).run Tryz.prog w = .ok (.string (H++pbd ss t 0)) w:=fun w=>run_string_add_sum _ _ _ (by rw[zH,pbd_size _ _ _ ht];decide)
 generalize H++pbd ss t 0=R at *
 have g5:L≤4:=by omega
 go_enter Tryz.func9, Tryz.ntmps9
 go_wp2_with fail
 refine Calls.mono RM.out ?_
 rintro x w1 ⟨v,rfl,⟨ka,kc,rfl,kl,kx,kcs⟩,hb1⟩
 have B1:Hid (Below w.heap.size w w1):=hb1
 have KC:Hid (∀w' i,Below w1.heap.size w1 w'→i < L+1→∃b o,ka=some ⟨b,o,none⟩∧w'.cell? ⟨b,o+i*5+2,none⟩=some (.string (hdk (nth ss i) lBody 32))):=fun w' i hb hi=>by
  obtain⟨b,o,e,-,-,c2,-,-⟩:=kcs i (by omega)
  exact⟨b,o,e,cell_later hb c2⟩
 rw[hL] at kl
 rw[hL]
 clear hb1 RM kcs
 obtain⟨b1,o1,rfl,d1⟩:=KC.out w1 L (Below.refl _ _) (by omega)
 have n1:IntKind.i64.wrap (((L+1:Nat):Int) - 1)=(L:Int):=by rw[IntKind.wrap_i64];omega
 have n2:wrap64 (((L+1:Nat):Int) - 1)=(L:Int):=by unfold wrap64;omega
 have n3:(L:Int) < ((L+1:Nat):Int):=by omega
 go_wp2_with fail
 refine Calls.mono (WR.out _) ?_
 rintro e w2 ⟨rfl,hb2⟩
 have B2:Hid (Below w1.heap.size w1 w2):=hb2
 clear hb2 WR d1
 go_wp2_with fail
 go_loopw [14,16] (fun bv iv wr=>∃j:Nat,j≤L∧iv = .int .i64 ((j:Int) - 1)∧bv = .string (pbd ss t j)∧Hid (Below w1.heap.size w1 wr)) (fun _ iv _=>(intOf iv+1).toNat)
 case atStart=>exact⟨L,Nat.le_refl _,by go_num,rfl,B2.out⟩
 case round =>
  obtain⟨j,hj,rfl,rfl,I⟩:=hrel
  clear B2
  cases j with
  | zero =>
   have q1:¬(0:Int)≤((0:Nat):Int) - 1:=by omega
   have BF:Hid (Below w.heap.size w wr):=chain B1.out I.out
   clear I
   go_wp2
   go_ret2
   exact⟨rfl,BF.out⟩
  | succ i =>
   have q0:((i+1:Nat):Int) - 1=(i:Int):=by omega
   rw[q0]
   have q1:(0:Int)≤(i:Int):=by omega
   obtain⟨b2,o2,he,c2⟩:=KC.out wr i I.out (by omega)
   cases he
   have n4:(i:Int) < ((L+1:Nat):Int):=by omega
   have n4':(i:Int) < (L:Int)+1:=by omega
   go_wp2_with fail
   refine Calls.mono (SH.out i _ (by omega)) ?_
   rintro e w3 ⟨rfl,hb3⟩
   have I3:Hid (Below w1.heap.size w1 w3):=chain I.out hb3
   clear hb3 I c2
   go_wp2
   exact⟨⟨i,by omega,by go_num,rfl,I3.out⟩,by simp[intOf]⟩
theorem rPMake_any (seed:ByteArray) (a:Option Addr) (pts:List ByteArray) (n cap:Nat) (t:ByteArray) (b:Option Addr) (hs:List Hp) (m cap2:Nat) (w:World) (hl:Hid (pts.length=n∧hs.length=m)) (hb:Hid (n*16≤140737488351232∧m*48≤140737488351232)) (hc:Hid (StrAt w a pts)) (hp:Hid (HopsAt w b hs)) :
  Calls Tryz.prog 9 #[.string seed,.slice a n cap,.string t,.slice b m cap2] w fun e w'=>e = .returned (.tuple #[.string (pmB seed pts t hs),.int .i64 (pmE seed pts t hs)])∧Below w.heap.size w w':=by
 have M:=rMake_any seed a pts n cap b hs m cap2 w hl hb hc hp
 by_cases h0:mkE seed pts hs=0
 ·rw[h0] at M
  rcases Nat.lt_or_ge 222 t.size with ht|ht
  ·obtain⟨e1,e2⟩:=pm_long seed pts t hs h0 ht
   rw[e1,e2]
   exact rPMake_long seed a n cap t b m cap2 w _ ht (M.mono fun x w' ⟨v,q1,_,q3⟩=>⟨v,q1,q3⟩)
  ·obtain⟨e1,e2⟩:=pm_parts seed pts t hs h0 ht
   rw[e1,e2]
   obtain⟨z1,z2,z3⟩:=mk_ok seed pts hs h0
   exact rPMake_ok seed a n cap t b m cap2 w _ _ ht z1 ⟨z2,z3⟩ M
 ·obtain⟨e1,e2⟩:=pm_no seed pts t hs h0
  rw[e1,e2]
  exact rPMake_no seed a n cap t b m cap2 w _ _ h0 (M.mono fun x w' ⟨v,q1,_,q3⟩=>⟨v,q1,q3⟩)
end Go.Proofs.YtgnkkjknngblbaaGreatDoor
namespace Go.Proofs.YtgnkkjknngblbaaGreatDoor
open Go.RowKit Go.Proofs.Fd Go.Proofs.Hs Go.Proofs.Cc Go.Proofs.Hd Go.Proofs.Rt Go.Proofs.Wd
set_option maxRecDepth 20000
def opm0:Oper:={ dst:=some 12,op:=Go.Op.move (Go.Operand.tmp 0),type := 9, pos := "law.go:18", after:=#[],guard:=none }
def opm1:Oper:={ dst:=some 13,op:=Go.Op.buildSlice 22 0 #[],type := 22, pos := "law.go:18", after:=#[],guard:=none }
def opm2:Oper:={ dst:=some 14,op:=Go.Op.fieldAddr 25 (Go.Operand.tmp 4) 0,type:=0,pos := "law.go:18", after:=#[],guard:=none }
def opm3:Oper:={ dst:=some 15,op:=Go.Op.load 22 (Go.Operand.tmp 14),type := 22, pos := "law.go:18", after:=#[{ on:=2,ground:=Go.Ground.data }],guard:=none }
def opm4:Oper:={ dst:=some 16,op:=Go.Op.call { callee:=Go.Callee.builtin Go.Builtin.append,args:=#[Go.Operand.tmp 13,Go.Operand.tmp 15],argTypes:=#[22, 22] },type := 22, pos := "law.go:18", after:=#[{ on:=1,ground:=Go.Ground.data },{ on:=3,ground:=Go.Ground.data }],guard:=none }
def opm5:Oper:={ dst:=some 17,op:=Go.Op.move (Go.Operand.tmp 2),type := 9, pos := "law.go:18", after:=#[],guard:=none }
def opm6:Oper:={ dst:=some 18,op:=Go.Op.buildSlice 23 0 #[],type := 23, pos := "law.go:18", after:=#[],guard:=none }
def opm7:Oper:={ dst:=some 19,op:=Go.Op.fieldAddr 25 (Go.Operand.tmp 4) 1,type:=0,pos := "law.go:18", after:=#[],guard:=none }
def opm8:Oper:={ dst:=some 20,op:=Go.Op.load 23 (Go.Operand.tmp 19),type := 23, pos := "law.go:18", after:=#[{ on:=7,ground:=Go.Ground.data }],guard:=none }
def opm9:Oper:={ dst:=some 21,op:=Go.Op.call { callee:=Go.Callee.builtin Go.Builtin.append,args:=#[Go.Operand.tmp 18,Go.Operand.tmp 20],argTypes:=#[23, 23] },type := 23, pos := "law.go:18", after:=#[{ on:=6,ground:=Go.Ground.data },{ on:=8,ground:=Go.Ground.data },{ on:=4,ground:=Go.Ground.chain }],guard:=none }
def opm10:Oper:={ dst:=some 22,op:=Go.Op.call { callee:=Go.Callee.value (Go.Operand.func 8),args:=#[Go.Operand.tmp 12,Go.Operand.tmp 16,Go.Operand.tmp 17,Go.Operand.tmp 21],argTypes:=#[9, 22, 9, 23] },type := 27, pos := "law.go:18", after:=#[{ on:=0,ground:=Go.Ground.data },{ on:=4,ground:=Go.Ground.data },{ on:=5,ground:=Go.Ground.data },{ on:=9,ground:=Go.Ground.data },{ on:=9,ground:=Go.Ground.chain }],guard:=none }
def opm11:Oper:={ dst:=some 11,op:=Go.Op.move (Go.Operand.tmp 22),type := 27, pos := "law.go:18", after:=#[{ on:=10,ground:=Go.Ground.data }],guard:=none }
def opm12:Oper:={ dst:=some 23,op:=Go.Op.extract (Go.Operand.tmp 11) 0,type := 9, pos := "law.go:18", after:=#[{ on:=11,ground:=Go.Ground.data }],guard:=none }
def opm13:Oper:={ dst:=some 24,op:=Go.Op.extract (Go.Operand.tmp 11) 1,type := 26, pos := "law.go:18", after:=#[{ on:=11,ground:=Go.Ground.data },{ on:=14,ground:=Go.Ground.gcOnly Go.Departure.lateStores }],guard:=none }
def opm14:Oper:={ dst:=some 7,op:=Go.Op.assign (Go.Operand.tmp 23),type := 9, pos := "law.go:18", after:=#[{ on:=12,ground:=Go.Ground.data },{ on:=10,ground:=Go.Ground.chain },{ on:=0,ground:=Go.Ground.phase },{ on:=1,ground:=Go.Ground.phase },{ on:=2,ground:=Go.Ground.phase },{ on:=3,ground:=Go.Ground.phase },{ on:=4,ground:=Go.Ground.phase },{ on:=5,ground:=Go.Ground.phase },{ on:=6,ground:=Go.Ground.phase },{ on:=7,ground:=Go.Ground.phase },{ on:=8,ground:=Go.Ground.phase },{ on:=9,ground:=Go.Ground.phase },{ on:=10,ground:=Go.Ground.phase },{ on:=11,ground:=Go.Ground.phase },{ on:=12,ground:=Go.Ground.phase },{ on:=13,ground:=Go.Ground.textOnly Go.Departure.lateStores }],guard:=none }
def opm15:Oper:={ dst:=some 8,op:=Go.Op.assign (Go.Operand.tmp 24),type := 26, pos := "law.go:18", after:=#[{ on:=13,ground:=Go.Ground.data },{ on:=14,ground:=Go.Ground.chain },{ on:=0,ground:=Go.Ground.phase },{ on:=1,ground:=Go.Ground.phase },{ on:=2,ground:=Go.Ground.phase },{ on:=3,ground:=Go.Ground.phase },{ on:=4,ground:=Go.Ground.phase },{ on:=5,ground:=Go.Ground.phase },{ on:=6,ground:=Go.Ground.phase },{ on:=7,ground:=Go.Ground.phase },{ on:=8,ground:=Go.Ground.phase },{ on:=9,ground:=Go.Ground.phase },{ on:=10,ground:=Go.Ground.phase },{ on:=11,ground:=Go.Ground.phase },{ on:=12,ground:=Go.Ground.phase },{ on:=13,ground:=Go.Ground.phase },{ on:=14,ground:=Go.Ground.phase }],guard:=none }
set_option maxHeartbeats 1000000 in
theorem PackMakes_walk (CM:Hid PMakeC) (CL:Hid PPeelC) (seed:ByteArray) (zs:Hid (seed.size+64≤140737488355328)) (a:Option Addr) (pts:List ByteArray) (n cap:Nat) (b:Option Addr) (hs:List Hp) (m cap2:Nat) (t:ByteArray) (zt:Hid (t.size≤140737488355328)) (w:World) (hl:Hid (pts.length=n∧hs.length=m)) (hb:Hid (n*16≤140737488351232∧m*48≤140737488351232))
  (ha:Hid (a=none→n=0∧cap=0)) (hb2:Hid (b=none→m=0∧cap2=0)) (zp:Hid (∀p∈pts,p.size≤140737488355328)) (hid:Hid (∀h∈hs,h.id.size≤140737488355328)) (hK:Hid (Kh w)) (hc:Hid (StrAt w a pts)) (hp:Hid (HopsAt w b hs)) :
  Calls Tryz.prog 3 #[.string seed,.agg #[.slice a n cap,.slice b m cap2],.string t] w fun e w'=>e = .returned (.bool true)∧Below w.heap.size w w':=by
 have WK:Hid (∀w,Kh w→Calls Tryz.prog 11 #[] w fun e w'=>e = .returned (.bool true)∧Below w.heap.size w w'):=fun w h=>works9_any CM CL w h
 have RO:Hid (∀w,Calls Tryz.prog 10 #[] w fun e w'=>e = .returned (.int .i64 222)∧w'=w):=room_any
 have MK:Hid (∀(x1 x2:Option Addr) (c1 c2:Nat) (w':World),Below w.heap.size w w'→StrAt w' x1 pts→HopsAt w' x2 hs→Calls Tryz.prog 8 #[.string seed,.slice x1 n c1,.string t,.slice x2 m c2] w' fun e w''=>e = .returned (.tuple #[.string (pmB seed pts t hs),.int .i64 (pmE seed pts t hs)])∧Below w'.heap.size w' w''):=fun x1 x2 c1 c2 w' h q1 q2 =>
  CM.out seed x1 pts n c1 t x2 hs m c2 w' hl hb zs zp hid zt (hK.out.later h) q1 q2
 have RM:Hid (∀w',Below w.heap.size w w'→Calls Tryz.prog 9 #[.string seed,.slice a n cap,.string t,.slice b m cap2] w' fun e w''=>e = .returned (.tuple #[.string (pmB seed pts t hs),.int .i64 (pmE seed pts t hs)])∧Below w'.heap.size w' w''):=fun w' h =>
  rPMake_any seed a pts n cap t b hs m cap2 w' hl hb (hc.out.later h rfl) (hp.out.later h rfl)
 have A1:Hid (∀(W:World) (g:Nat),Below w.heap.size w W→W.ownsRow w.heap.size 9 1 (.slice (some ⟨g,0,none⟩) 0 0) 0 []→∃x c w',(Builtin.append_ #[22, 22] 22 #[.slice (some ⟨g,0,none⟩) 0 0,.slice a n cap]).run Tryz.prog W = .ok (.slice x n c) w'∧w'.ownsRow w.heap.size 9 1 (.slice x n c) n (scells pts)∧W.grownBy w' (some g)):=fun W g h ho =>
  app_strs ho h.size a pts n cap hl.out.1 hb.out.1 (hc.out.later h rfl) ha.out
 have A2:Hid (∀(W:World) (g:Nat),Below w.heap.size w W→W.ownsRow w.heap.size 34 5 (.slice (some ⟨g,0,none⟩) 0 0) 0 []→∃x c w',(Builtin.append_ #[23, 23] 23 #[.slice (some ⟨g,0,none⟩) 0 0,.slice b m cap2]).run Tryz.prog W = .ok (.slice x m c) w'∧w'.ownsRow w.heap.size 34 5 (.slice x m c) m (hcells hs)∧W.grownBy w' (some g)):=fun W g h ho =>
  app_hops ho h.size b hs m cap2 hl.out.2 hb.out.2 (hp.out.later h rfl) hb2.out
 generalize pmB seed pts t hs=PB at *
 generalize pmE seed pts t hs=PE at *
 have IPB:(PB.toList == PB.toList)=true:=by simp
 clear CM CL zs zp hid ha hb2 hc hp zt
 go_enter Tryz.func3, Tryz.ntmps3
 go_wp2_with fail
 obtain⟨A,hA⟩:∃A,w.alloc (.cells #[.slice a n cap,.slice b m cap2] 25)=A:=⟨_,rfl⟩
 have ST0:Hid (Sts w A.drew w.heap.size (.slice a n cap) (.slice b m cap2) pts n none none none):=by
  rw[←hA]
  have hb0:Below w.heap.size w (w.alloc (.cells #[.slice a n cap,.slice b m cap2] 25)):=(Below.refl _ _).alloc (Nat.le_refl _) _
  refine Sts.later (W:=w.alloc (.cells #[.slice a n cap,.slice b m cap2] 25)) ⟨⟨rfl,.inr ⟨w.heap.size,2,#[.slice a n cap,.slice b m cap2],rfl,Nat.le_refl _,heap_newr _ _,Nat.le_refl _,by decide,rfl,rfl⟩⟩,hb0,fun _ q=>(by cases q),fun _ q=>(by cases q),fun _ q=>(by cases q)⟩ (Below.refl _ _).drew
 have HS0:A.drew.cell? ⟨w.heap.size,0,none⟩=some (.slice a n cap)∧A.drew.cell? ⟨w.heap.size,1,none⟩=some (.slice b m cap2):=ST0.out.cells
 rw[hA]
 clear hA
 obtain⟨g4,hg4⟩:∃g4,w.heap.size=g4:=⟨_,rfl⟩
 have HG:Hid (w.heap.size=g4):=hg4
 rw[hg4] at HS0
 have ST00:Hid (Sts w A.drew g4 (.slice a n cap) (.slice b m cap2) pts n none none none):=by
  have h:=ST0.out
  have e:Sts w A.drew w.heap.size (.slice a n cap) (.slice b m cap2) pts n none none none=Sts w A.drew g4 (.slice a n cap) (.slice b m cap2) pts n none none none:=congrArg (fun g=>Sts w A.drew g (.slice a n cap) (.slice b m cap2) pts n none none none) hg4
  rw[←e]
  exact h
 clear ST0
 rw[hg4]
 clear hg4
 refine (fun (KEY:∀(g13 g18:Nat) (x1 x2:Option Addr) (c1 c2:Nat) (X:World),Hid (X.cell? ⟨g4,0,none⟩=some (.slice a n cap)∧X.cell? ⟨g4,1,none⟩=some (.slice b m cap2)∧Below w.heap.size w X)→(?KK1:Nat→Nat→Option Addr→Option Addr→Nat→Nat→World→Prop) g13 g18 x1 x2 c1 c2 X) => ?main1) ?key1
 case main1 =>
  refine wp_region_noPanic ?_
  refine wp_region_held_drew (S:=fun w'=>w'.cell? ⟨g4,0,none⟩=some (.slice a n cap)∧w'.cell? ⟨g4,1,none⟩=some (.slice b m cap2)) (by kernel_rfl) (HS0) (fun hHeld => ?_)
  refine wpAnyH_take (i:=0) (oi:=opm0) (v := ?_) rfl (by kernel_rfl) (by kernel_rfl) (by kernel_rfl) (fun _ _ _ h=>h) (Or.inl ⟨by rfl,?_⟩) (by assumption) ?_
  rotate_left
  ·intro w' hSw
   clear hSw
   unfold opm0
   first
   | (go_simp;done)
   | (go_simp;with_reducible rfl)
  simp only[opm0,Act.put,List.setIfInBounds_toArray,List.set_cons_zero,List.set_cons_succ]
  refine wpAnyH_take (i:=2) (oi:=opm2) (v := ?_) rfl (by kernel_rfl) (by kernel_rfl) (by kernel_rfl) (fun _ _ _ h=>h) (Or.inl ⟨by rfl,?_⟩) (by assumption) ?_
  rotate_left
  ·intro w' hSw
   clear hSw
   unfold opm2
   first
   | (go_simp;done)
   | (go_simp;with_reducible rfl)
  simp only[opm2,Act.put,List.setIfInBounds_toArray,List.set_cons_zero,List.set_cons_succ]
  refine wpAnyH_take (i:=3) (oi:=opm3) (v := ?_) rfl (by kernel_rfl) (by kernel_rfl) (by kernel_rfl) (fun _ _ _ h=>h) (Or.inl ⟨by rfl,?_⟩) (by assumption) ?_
  rotate_left
  ·intro w' hSw
   obtain⟨p0,p1⟩:=hSw
   unfold opm3
   first
   | (go_simp;done)
   | (go_simp;with_reducible rfl)
  simp only[opm3,Act.put,List.setIfInBounds_toArray,List.set_cons_zero,List.set_cons_succ]
  refine wpAnyH_take (i:=5) (oi:=opm5) (v := ?_) rfl (by kernel_rfl) (by kernel_rfl) (by kernel_rfl) (fun _ _ _ h=>h) (Or.inl ⟨by rfl,?_⟩) (by assumption) ?_
  rotate_left
  ·intro w' hSw
   clear hSw
   unfold opm5
   first
   | (go_simp;done)
   | (go_simp;with_reducible rfl)
  simp only[opm5,Act.put,List.setIfInBounds_toArray,List.set_cons_zero,List.set_cons_succ]
  refine wpAnyH_take (i:=7) (oi:=opm7) (v := ?_) rfl (by kernel_rfl) (by kernel_rfl) (by kernel_rfl) (fun _ _ _ h=>h) (Or.inl ⟨by rfl,?_⟩) (by assumption) ?_
  rotate_left
  ·intro w' hSw
   clear hSw
   unfold opm7
   first
   | (go_simp;done)
   | (go_simp;with_reducible rfl)
  simp only[opm7,Act.put,List.setIfInBounds_toArray,List.set_cons_zero,List.set_cons_succ]
  refine wpAnyH_take (i:=8) (oi:=opm8) (v := ?_) rfl (by kernel_rfl) (by kernel_rfl) (by kernel_rfl) (fun _ _ _ h=>h) (Or.inl ⟨by rfl,?_⟩) (by assumption) ?_
  rotate_left
  ·intro w' hSw
   obtain⟨p0,p1⟩:=hSw
   unfold opm8
   first
   | (go_simp;done)
   | (go_simp;with_reducible rfl)
  simp only[opm8,Act.put,List.setIfInBounds_toArray,List.set_cons_zero,List.set_cons_succ]
  obtain⟨D0,hD0⟩:∃D,A.drew=D:=⟨_,rfl⟩
  have STa:Hid (Sts w D0 g4 (.slice a n cap) (.slice b m cap2) pts n none none none):=by rw[←hD0];exact ST00.out
  rw[hD0] at hHeld
  rw[hD0]
  clear hD0
  refine wpAnyH_ready (rs:=[1,6]) (by kernel_rfl) (by simp) ?_
  refine AllReadyH.cons (o:=opm1) rfl (fun KK hKK => ?_) (AllReadyH.cons (o:=opm6) rfl (fun KK hKK => ?_) AllReadyH.nil)
  ·
   unfold opm1
   go_simp
   have ST1:Hid (Sts w (D0.alloc (.cells #[] 9)) g4 (.slice a n cap) (.slice b m cap2) pts n (some D0.heap.size) none none):=STa.out.new13
   refine hKK.out _ _ ST1.out.cells (fun hHeld1 => ?_)
   clear hKK KK hHeld STa
   obtain⟨U1,hU1⟩:∃X,D0.alloc (.cells #[] 9)=X:=⟨_,rfl⟩
   obtain⟨g1,hg1⟩:∃t,D0.heap.size=t:=⟨_,rfl⟩
   rw[hU1,hg1] at ST1
   rw[hU1] at hHeld1
   rw[hU1,hg1]
   clear hU1 hg1
   refine wpAnyH_ready (rs:=[4,6]) (by kernel_rfl) (by simp) ?_
   refine AllReadyH.cons (o:=opm4) rfl (fun KK hKK => ?_) (AllReadyH.cons (o:=opm6) rfl (fun KK hKK => ?_) AllReadyH.nil)
   ·
    obtain⟨x2,c2,U2,hr,ho,hg⟩:=A1.out _ g1 ST1.out.2.1 (ST1.out.2.2.1 g1 rfl)
    rw[if_pos (by kernel_rfl)]
    refine Go.Lib.wp_append_run _ _ _ _ _ rfl _ _ rfl rfl _ _ hr ?_
    have ST2:Hid (Sts w U2 g4 (.slice a n cap) (.slice b m cap2) pts n none (some (.slice x2 n c2)) none):=ST1.out.app16 ho hg
    refine hKK.out _ _ ST2.out.cells (fun hHeld2 => ?_)
    clear hKK KK hr ho hg hHeld1 ST1
    simp only[opm4,Act.put,List.setIfInBounds_toArray,List.set_cons_zero,List.set_cons_succ]
    refine wpAnyH_ready (rs:=[6]) (by kernel_rfl) (by simp) ?_
    refine AllReadyH.cons (o:=opm6) rfl (fun KK hKK => ?_) AllReadyH.nil
    ·
     unfold opm6
     go_simp
     have ST3:Hid (Sts w (U2.alloc (.cells #[] 34)) g4 (.slice a n cap) (.slice b m cap2) pts n none (some (.slice x2 n c2)) (some U2.heap.size)):=ST2.out.new18
     refine hKK.out _ _ ST3.out.cells (fun hHeld3 => ?_)
     clear hKK KK hHeld2 ST2
     obtain⟨U3,hU3⟩:∃X,U2.alloc (.cells #[] 34)=X:=⟨_,rfl⟩
     obtain⟨g3,hg3⟩:∃t,U2.heap.size=t:=⟨_,rfl⟩
     rw[hU3,hg3] at ST3
     rw[hU3] at hHeld3
     rw[hU3,hg3]
     clear hU3 hg3
     refine wpAnyH_ready (rs:=[9]) (by kernel_rfl) (by simp) ?_
     refine AllReadyH.cons (o:=opm9) rfl (fun KK hKK => ?_) AllReadyH.nil
     ·
      obtain⟨x4,c4,U4,hr,ho,hg⟩:=A2.out _ g3 ST3.out.2.1 (ST3.out.2.2.2.2 g3 rfl)
      rw[if_pos (by kernel_rfl)]
      refine Go.Lib.wp_append_run _ _ _ _ _ rfl _ _ rfl rfl _ _ hr ?_
      have ST4:Hid (Sts w U4 g4 (.slice a n cap) (.slice b m cap2) pts n none (some (.slice x2 n c2)) none∧HopsAt U4 x4 hs):=⟨ST3.out.app21 hg,own_hopsAt ho⟩
      refine hKK.out _ _ ST4.out.1.cells (fun hHeld4 => ?_)
      clear hKK KK hr ho hg hHeld3 ST3
      simp only[opm9,Act.put,List.setIfInBounds_toArray,List.set_cons_zero,List.set_cons_succ]
      refine wpAnyH_ready (rs:=[10]) (by kernel_rfl) (by simp) ?_
      refine AllReadyH.cons (o:=opm10) rfl (fun KK hKK => ?_) AllReadyH.nil
      unfold opm10
      go_simp
      refine Calls.mono (MK.out x2 x4 c2 c4 _ ST4.out.1.2.1 (own_strAt (ST4.out.1.2.2.2.1 _ rfl)) ST4.out.2) ?_
      rintro e V4 ⟨rfl,hbm⟩
      have FF:Hid (V4.cell? ⟨g4,0,none⟩=some (.slice a n cap)∧V4.cell? ⟨g4,1,none⟩=some (.slice b m cap2)∧Below w.heap.size w V4):=⟨cell_later hbm ST4.out.1.cells.1,cell_later hbm ST4.out.1.cells.2,chain ST4.out.1.2.1 hbm⟩
      refine hKK.out _ _ ⟨FF.out.1,FF.out.2.1⟩ (fun hHeldZ => ?_)
      clear hKK KK hbm hHeld4 ST4
      refine wpAnyH_take (i:=11) (oi:=opm11) (v := ?_) rfl (by kernel_rfl) (by kernel_rfl) (by kernel_rfl) (fun _ _ _ h=>h) (Or.inl ⟨by rfl,?_⟩) (by assumption) ?_
      rotate_left
      ·intro w' hSw
       clear hSw
       unfold opm11
       first
       | (go_simp;done)
       | (go_simp;with_reducible rfl)
      simp only[opm11,Act.put,List.setIfInBounds_toArray,List.set_cons_zero,List.set_cons_succ]
      refine wpAnyH_take (i:=12) (oi:=opm12) (v := ?_) rfl (by kernel_rfl) (by kernel_rfl) (by kernel_rfl) (fun _ _ _ h=>h) (Or.inl ⟨by rfl,?_⟩) (by assumption) ?_
      rotate_left
      ·intro w' hSw
       clear hSw
       unfold opm12
       first
       | (go_simp;done)
       | (go_simp;with_reducible rfl)
      simp only[opm12,Act.put,List.setIfInBounds_toArray,List.set_cons_zero,List.set_cons_succ]
      refine wpAnyH_take (i:=13) (oi:=opm13) (v := ?_) rfl (by kernel_rfl) (by kernel_rfl) (by kernel_rfl) (fun _ _ _ h=>h) (Or.inl ⟨by rfl,?_⟩) (by assumption) ?_
      rotate_left
      ·intro w' hSw
       clear hSw
       unfold opm13
       first
       | (go_simp;done)
       | (go_simp;with_reducible rfl)
      simp only[opm13,Act.put,List.setIfInBounds_toArray,List.set_cons_zero,List.set_cons_succ]
      refine wpAnyH_take (i:=14) (oi:=opm14) (v := ?_) rfl (by kernel_rfl) (by kernel_rfl) (by kernel_rfl) (fun _ _ _ h=>h) (Or.inl ⟨by rfl,?_⟩) (by assumption) ?_
      rotate_left
      ·intro w' hSw
       clear hSw
       unfold opm14
       first
       | (go_simp;done)
       | (go_simp;with_reducible rfl)
      simp only[opm14,Act.put,List.setIfInBounds_toArray,List.set_cons_zero,List.set_cons_succ]
      refine wpAnyH_take (i:=15) (oi:=opm15) (v := ?_) rfl (by kernel_rfl) (by kernel_rfl) (by kernel_rfl) (fun _ _ _ h=>h) (Or.inl ⟨by rfl,?_⟩) (by assumption) ?_
      rotate_left
      ·intro w' hSw
       clear hSw
       unfold opm15
       first
       | (go_simp;done)
       | (go_simp;with_reducible rfl)
      simp only[opm15,Act.put,List.setIfInBounds_toArray,List.set_cons_zero,List.set_cons_succ]
      refine wpAnyH_done (by kernel_rfl) ?_ _
      refine NoPanic.normal ?_
      clear hHeldZ
      exact KEY g1 g3 x2 x4 c2 c4 V4 FF.out
   ·
    unfold opm6
    go_simp
    have ST5:Hid (Sts w (U1.alloc (.cells #[] 34)) g4 (.slice a n cap) (.slice b m cap2) pts n (some g1) none (some U1.heap.size)):=ST1.out.new18
    refine hKK.out _ _ ST5.out.cells (fun hHeld5 => ?_)
    clear hKK KK hHeld1 ST1
    obtain⟨U5,hU5⟩:∃X,U1.alloc (.cells #[] 34)=X:=⟨_,rfl⟩
    obtain⟨g5,hg5⟩:∃t,U1.heap.size=t:=⟨_,rfl⟩
    rw[hU5,hg5] at ST5
    rw[hU5] at hHeld5
    rw[hU5,hg5]
    clear hU5 hg5
    refine wpAnyH_ready (rs:=[4]) (by kernel_rfl) (by simp) ?_
    refine AllReadyH.cons (o:=opm4) rfl (fun KK hKK => ?_) AllReadyH.nil
    ·
     obtain⟨x6,c6,U6,hr,ho,hg⟩:=A1.out _ g1 ST5.out.2.1 (ST5.out.2.2.1 g1 rfl)
     rw[if_pos (by kernel_rfl)]
     refine Go.Lib.wp_append_run _ _ _ _ _ rfl _ _ rfl rfl _ _ hr ?_
     have ST6:Hid (Sts w U6 g4 (.slice a n cap) (.slice b m cap2) pts n none (some (.slice x6 n c6)) (some g5)):=ST5.out.app16 ho hg
     refine hKK.out _ _ ST6.out.cells (fun hHeld6 => ?_)
     clear hKK KK hr ho hg hHeld5 ST5
     simp only[opm4,Act.put,List.setIfInBounds_toArray,List.set_cons_zero,List.set_cons_succ]
     refine wpAnyH_ready (rs:=[9]) (by kernel_rfl) (by simp) ?_
     refine AllReadyH.cons (o:=opm9) rfl (fun KK hKK => ?_) AllReadyH.nil
     ·
      obtain⟨x7,c7,U7,hr,ho,hg⟩:=A2.out _ g5 ST6.out.2.1 (ST6.out.2.2.2.2 g5 rfl)
      rw[if_pos (by kernel_rfl)]
      refine Go.Lib.wp_append_run _ _ _ _ _ rfl _ _ rfl rfl _ _ hr ?_
      have ST7:Hid (Sts w U7 g4 (.slice a n cap) (.slice b m cap2) pts n none (some (.slice x6 n c6)) none∧HopsAt U7 x7 hs):=⟨ST6.out.app21 hg,own_hopsAt ho⟩
      refine hKK.out _ _ ST7.out.1.cells (fun hHeld7 => ?_)
      clear hKK KK hr ho hg hHeld6 ST6
      simp only[opm9,Act.put,List.setIfInBounds_toArray,List.set_cons_zero,List.set_cons_succ]
      refine wpAnyH_ready (rs:=[10]) (by kernel_rfl) (by simp) ?_
      refine AllReadyH.cons (o:=opm10) rfl (fun KK hKK => ?_) AllReadyH.nil
      unfold opm10
      go_simp
      refine Calls.mono (MK.out x6 x7 c6 c7 _ ST7.out.1.2.1 (own_strAt (ST7.out.1.2.2.2.1 _ rfl)) ST7.out.2) ?_
      rintro e V7 ⟨rfl,hbm⟩
      have FF:Hid (V7.cell? ⟨g4,0,none⟩=some (.slice a n cap)∧V7.cell? ⟨g4,1,none⟩=some (.slice b m cap2)∧Below w.heap.size w V7):=⟨cell_later hbm ST7.out.1.cells.1,cell_later hbm ST7.out.1.cells.2,chain ST7.out.1.2.1 hbm⟩
      refine hKK.out _ _ ⟨FF.out.1,FF.out.2.1⟩ (fun hHeldZ => ?_)
      clear hKK KK hbm hHeld7 ST7
      refine wpAnyH_take (i:=11) (oi:=opm11) (v := ?_) rfl (by kernel_rfl) (by kernel_rfl) (by kernel_rfl) (fun _ _ _ h=>h) (Or.inl ⟨by rfl,?_⟩) (by assumption) ?_
      rotate_left
      ·intro w' hSw
       clear hSw
       unfold opm11
       first
       | (go_simp;done)
       | (go_simp;with_reducible rfl)
      simp only[opm11,Act.put,List.setIfInBounds_toArray,List.set_cons_zero,List.set_cons_succ]
      refine wpAnyH_take (i:=12) (oi:=opm12) (v := ?_) rfl (by kernel_rfl) (by kernel_rfl) (by kernel_rfl) (fun _ _ _ h=>h) (Or.inl ⟨by rfl,?_⟩) (by assumption) ?_
      rotate_left
      ·intro w' hSw
       clear hSw
       unfold opm12
       first
       | (go_simp;done)
       | (go_simp;with_reducible rfl)
      simp only[opm12,Act.put,List.setIfInBounds_toArray,List.set_cons_zero,List.set_cons_succ]
      refine wpAnyH_take (i:=13) (oi:=opm13) (v := ?_) rfl (by kernel_rfl) (by kernel_rfl) (by kernel_rfl) (fun _ _ _ h=>h) (Or.inl ⟨by rfl,?_⟩) (by assumption) ?_
      rotate_left
      ·intro w' hSw
       clear hSw
       unfold opm13
       first
       | (go_simp;done)
       | (go_simp;with_reducible rfl)
      simp only[opm13,Act.put,List.setIfInBounds_toArray,List.set_cons_zero,List.set_cons_succ]
      refine wpAnyH_take (i:=14) (oi:=opm14) (v := ?_) rfl (by kernel_rfl) (by kernel_rfl) (by kernel_rfl) (fun _ _ _ h=>h) (Or.inl ⟨by rfl,?_⟩) (by assumption) ?_
      rotate_left
      ·intro w' hSw
       clear hSw
       unfold opm14
       first
       | (go_simp;done)
       | (go_simp;with_reducible rfl)
      simp only[opm14,Act.put,List.setIfInBounds_toArray,List.set_cons_zero,List.set_cons_succ]
      refine wpAnyH_take (i:=15) (oi:=opm15) (v := ?_) rfl (by kernel_rfl) (by kernel_rfl) (by kernel_rfl) (fun _ _ _ h=>h) (Or.inl ⟨by rfl,?_⟩) (by assumption) ?_
      rotate_left
      ·intro w' hSw
       clear hSw
       unfold opm15
       first
       | (go_simp;done)
       | (go_simp;with_reducible rfl)
      simp only[opm15,Act.put,List.setIfInBounds_toArray,List.set_cons_zero,List.set_cons_succ]
      refine wpAnyH_done (by kernel_rfl) ?_ _
      refine NoPanic.normal ?_
      clear hHeldZ
      exact KEY g1 g5 x6 x7 c6 c7 V7 FF.out
  ·
   unfold opm6
   go_simp
   have ST8:Hid (Sts w (D0.alloc (.cells #[] 34)) g4 (.slice a n cap) (.slice b m cap2) pts n none none (some D0.heap.size)):=STa.out.new18
   refine hKK.out _ _ ST8.out.cells (fun hHeld8 => ?_)
   clear hKK KK hHeld STa
   obtain⟨U8,hU8⟩:∃X,D0.alloc (.cells #[] 34)=X:=⟨_,rfl⟩
   obtain⟨g8,hg8⟩:∃t,D0.heap.size=t:=⟨_,rfl⟩
   rw[hU8,hg8] at ST8
   rw[hU8] at hHeld8
   rw[hU8,hg8]
   clear hU8 hg8
   refine wpAnyH_ready (rs:=[1]) (by kernel_rfl) (by simp) ?_
   refine AllReadyH.cons (o:=opm1) rfl (fun KK hKK => ?_) AllReadyH.nil
   ·
    unfold opm1
    go_simp
    have ST9:Hid (Sts w (U8.alloc (.cells #[] 9)) g4 (.slice a n cap) (.slice b m cap2) pts n (some U8.heap.size) none (some g8)):=ST8.out.new13
    refine hKK.out _ _ ST9.out.cells (fun hHeld9 => ?_)
    clear hKK KK hHeld8 ST8
    obtain⟨U9,hU9⟩:∃X,U8.alloc (.cells #[] 9)=X:=⟨_,rfl⟩
    obtain⟨g9,hg9⟩:∃t,U8.heap.size=t:=⟨_,rfl⟩
    rw[hU9,hg9] at ST9
    rw[hU9] at hHeld9
    rw[hU9,hg9]
    clear hU9 hg9
    refine wpAnyH_ready (rs:=[4]) (by kernel_rfl) (by simp) ?_
    refine AllReadyH.cons (o:=opm4) rfl (fun KK hKK => ?_) AllReadyH.nil
    ·
     obtain⟨x10,c10,U10,hr,ho,hg⟩:=A1.out _ g9 ST9.out.2.1 (ST9.out.2.2.1 g9 rfl)
     rw[if_pos (by kernel_rfl)]
     refine Go.Lib.wp_append_run _ _ _ _ _ rfl _ _ rfl rfl _ _ hr ?_
     have ST10:Hid (Sts w U10 g4 (.slice a n cap) (.slice b m cap2) pts n none (some (.slice x10 n c10)) (some g8)):=ST9.out.app16 ho hg
     refine hKK.out _ _ ST10.out.cells (fun hHeld10 => ?_)
     clear hKK KK hr ho hg hHeld9 ST9
     simp only[opm4,Act.put,List.setIfInBounds_toArray,List.set_cons_zero,List.set_cons_succ]
     refine wpAnyH_ready (rs:=[9]) (by kernel_rfl) (by simp) ?_
     refine AllReadyH.cons (o:=opm9) rfl (fun KK hKK => ?_) AllReadyH.nil
     ·
      obtain⟨x11,c11,U11,hr,ho,hg⟩:=A2.out _ g8 ST10.out.2.1 (ST10.out.2.2.2.2 g8 rfl)
      rw[if_pos (by kernel_rfl)]
      refine Go.Lib.wp_append_run _ _ _ _ _ rfl _ _ rfl rfl _ _ hr ?_
      have ST11:Hid (Sts w U11 g4 (.slice a n cap) (.slice b m cap2) pts n none (some (.slice x10 n c10)) none∧HopsAt U11 x11 hs):=⟨ST10.out.app21 hg,own_hopsAt ho⟩
      refine hKK.out _ _ ST11.out.1.cells (fun hHeld11 => ?_)
      clear hKK KK hr ho hg hHeld10 ST10
      simp only[opm9,Act.put,List.setIfInBounds_toArray,List.set_cons_zero,List.set_cons_succ]
      refine wpAnyH_ready (rs:=[10]) (by kernel_rfl) (by simp) ?_
      refine AllReadyH.cons (o:=opm10) rfl (fun KK hKK => ?_) AllReadyH.nil
      unfold opm10
      go_simp
      refine Calls.mono (MK.out x10 x11 c10 c11 _ ST11.out.1.2.1 (own_strAt (ST11.out.1.2.2.2.1 _ rfl)) ST11.out.2) ?_
      rintro e V11 ⟨rfl,hbm⟩
      have FF:Hid (V11.cell? ⟨g4,0,none⟩=some (.slice a n cap)∧V11.cell? ⟨g4,1,none⟩=some (.slice b m cap2)∧Below w.heap.size w V11):=⟨cell_later hbm ST11.out.1.cells.1,cell_later hbm ST11.out.1.cells.2,chain ST11.out.1.2.1 hbm⟩
      refine hKK.out _ _ ⟨FF.out.1,FF.out.2.1⟩ (fun hHeldZ => ?_)
      clear hKK KK hbm hHeld11 ST11
      refine wpAnyH_take (i:=11) (oi:=opm11) (v := ?_) rfl (by kernel_rfl) (by kernel_rfl) (by kernel_rfl) (fun _ _ _ h=>h) (Or.inl ⟨by rfl,?_⟩) (by assumption) ?_
      rotate_left
      ·intro w' hSw
       clear hSw
       unfold opm11
       first
       | (go_simp;done)
       | (go_simp;with_reducible rfl)
      simp only[opm11,Act.put,List.setIfInBounds_toArray,List.set_cons_zero,List.set_cons_succ]
      refine wpAnyH_take (i:=12) (oi:=opm12) (v := ?_) rfl (by kernel_rfl) (by kernel_rfl) (by kernel_rfl) (fun _ _ _ h=>h) (Or.inl ⟨by rfl,?_⟩) (by assumption) ?_
      rotate_left
      ·intro w' hSw
       clear hSw
       unfold opm12
       first
       | (go_simp;done)
       | (go_simp;with_reducible rfl)
      simp only[opm12,Act.put,List.setIfInBounds_toArray,List.set_cons_zero,List.set_cons_succ]
      refine wpAnyH_take (i:=13) (oi:=opm13) (v := ?_) rfl (by kernel_rfl) (by kernel_rfl) (by kernel_rfl) (fun _ _ _ h=>h) (Or.inl ⟨by rfl,?_⟩) (by assumption) ?_
      rotate_left
      ·intro w' hSw
       clear hSw
       unfold opm13
       first
       | (go_simp;done)
       | (go_simp;with_reducible rfl)
      simp only[opm13,Act.put,List.setIfInBounds_toArray,List.set_cons_zero,List.set_cons_succ]
      refine wpAnyH_take (i:=14) (oi:=opm14) (v := ?_) rfl (by kernel_rfl) (by kernel_rfl) (by kernel_rfl) (fun _ _ _ h=>h) (Or.inl ⟨by rfl,?_⟩) (by assumption) ?_
      rotate_left
      ·intro w' hSw
       clear hSw
       unfold opm14
       first
       | (go_simp;done)
       | (go_simp;with_reducible rfl)
      simp only[opm14,Act.put,List.setIfInBounds_toArray,List.set_cons_zero,List.set_cons_succ]
      refine wpAnyH_take (i:=15) (oi:=opm15) (v := ?_) rfl (by kernel_rfl) (by kernel_rfl) (by kernel_rfl) (fun _ _ _ h=>h) (Or.inl ⟨by rfl,?_⟩) (by assumption) ?_
      rotate_left
      ·intro w' hSw
       clear hSw
       unfold opm15
       first
       | (go_simp;done)
       | (go_simp;with_reducible rfl)
      simp only[opm15,Act.put,List.setIfInBounds_toArray,List.set_cons_zero,List.set_cons_succ]
      refine wpAnyH_done (by kernel_rfl) ?_ _
      refine NoPanic.normal ?_
      clear hHeldZ
      exact KEY g9 g8 x10 x11 c10 c11 V11 FF.out
 case key1 =>
  intro g13 g18 x1 x2 c1 c2 X F
  have q0:=F.out.1
  have q1:=F.out.2.1
  go_wp2_with fail
  refine Calls.mono (RM.out _ F.out.2.2) ?_
  rintro e w3 ⟨rfl,hb3⟩
  have B3:Hid (Below w.heap.size w w3):=chain F.out.2.2 hb3
  clear hb3 RM F q0 q1
  go_wp2_with fail
  refine Calls.mono (RO.out _) ?_
  rintro e w4 ⟨rfl,hw⟩
  have hw2:=hw.symm
  subst hw2
  go_wp2_with fail
  refine Calls.mono (WK.out _ (hK.out.later B3.out)) ?_
  rintro e w5 ⟨rfl,hb5⟩
  have B5:Hid (Below w.heap.size w w5):=chain B3.out hb5
  clear hb5 WK
  go_wp2
  go_ret
  exact⟨rfl,B5.out⟩
end Go.Proofs.YtgnkkjknngblbaaGreatDoor
namespace Go.Proofs.YtgnkkjknngblbaaGreatDoor
open Go.RowKit Go.Proofs.Fd Go.Proofs.Hs Go.Proofs.Cc Go.Proofs.Hd Go.Proofs.Rt Go.Proofs.Wd
set_option maxRecDepth 20000
theorem Six.drew {w:World} {g:Nat} {k0 k1 k2 k3 k4 k5:ByteArray} (h:Six w g k0 k1 k2 k3 k4 k5):Six w.drew g k0 k1 k2 k3 k4 k5:=h.later (Below.refl _ _).drew
theorem Six.put5 {w:World} {g:Nat} {k0 k1 k2 k3 k4 k5:ByteArray} (h:Six w g k0 k1 k2 k3 k4 k5) (y0 y1 y2 y3 y4:ByteArray) :
  Six (((((w.setCell ⟨g,0,none⟩ (.string y0)).setCell ⟨g,1,none⟩ (.string y1)).setCell ⟨g,2,none⟩ (.string y2)).setCell ⟨g,3,none⟩ (.string y3)).setCell ⟨g,4,none⟩ (.string y4)) g y0 y1 y2 y3 y4 k5:=by
 obtain⟨f,h0,h1,h2,h3,h4,h5⟩:=h
 refine⟨fun o=>by simp[go_sem,f],?_,?_,?_,?_,?_,?_⟩ <;> simp[go_sem,h0,h1,h2,h3,h4,h5]
set_option maxHeartbeats 1000000 in
theorem pwrap_any (g:Nat) (k0 k1 k2 k3 k4 k5 t R:ByteArray) (w:World) (hS:Hid (Six w g k0 k1 k2 k3 k4 k5)) (hK:Hid (Kh w))
  (WR:Hid (∀w,Kh w→Calls Tryz.prog 70 #[.string k2,.string t,.int .i64 256] w fun e w'=>e = .returned (.tuple #[.string R,.int .i64 0])∧Below w.heap.size w w')) :
  Calls Tryz.prog 32 #[.pointer (some ⟨g,0,none⟩),.string t] w fun e w'=>e = .returned (.tuple #[])∧Six w' g k0 k1 k2 k3 k4 R∧Below g w w':=by
 obtain⟨fz,-,-,c2,-,-,c5⟩:=hS.out
 have gl:=hS.out.lt
 go_enter Tryz.func32, Tryz.ntmps32
 go_wp2_with fail
 refine Calls.mono (WR.out _ hK.out) ?_
 rintro e w1 ⟨rfl,hb1⟩
 have H1:Hid (Six w1 g k0 k1 k2 k3 k4 k5∧Below g w w1):=⟨Six.later hS.out hb1,hb1.mono (Nat.le_of_lt hS.out.lt)⟩
 have c51:=H1.out.1.2.2.2.2.2.2
 have f51:=H1.out.1.1 5
 clear hb1 WR c2 c5
 go_wp2
 exact bodyPost_end (results_none Tryz.results32 _ _ _) rfl ⟨rfl,H1.out.1.set5 R,H1.out.2.setCell (p:=⟨g,5,none⟩) (Nat.le_refl _) _⟩
set_option maxHeartbeats 1000000 in
theorem pshut_any (g:Nat) (k0 k1 k2 k3 k4 k5 R:ByteArray) (w:World) (hS:Hid (Six w g k0 k1 k2 k3 k4 k5)) (hK:Hid (Kh w))
  (WR:Hid (∀w,Kh w→Calls Tryz.prog 71 #[.string k2,.string k5] w fun e w'=>e = .returned (.tuple #[.string R,.int .i64 0])∧Below w.heap.size w w')) :
  Calls Tryz.prog 33 #[.pointer (some ⟨g,0,none⟩)] w fun e w'=>e = .returned (.tuple #[])∧Six w' g k0 k1 k2 k3 k4 R∧Below g w w':=by
 obtain⟨fz,-,-,c2,-,-,c5⟩:=hS.out
 have gl:=hS.out.lt
 go_enter Tryz.func33, Tryz.ntmps33
 go_wp2
 go_region_with (first|(go_at_call 71;refine Calls.mono (WR.out _ (Kh.later hK.out (Below.refl _ _).drew)) ?_;rintro e w1 ⟨rfl,hb1⟩;have H1:Hid (Six w1 g k0 k1 k2 k3 k4 k5):=Six.later (Six.drew hS.out) hb1;have c51:=H1.out.2.2.2.2.2.2;have f51:=H1.out.1 5))
 all_goals
  exact bodyPost_end (results_none Tryz.results33 _ _ _) rfl ⟨rfl,H1.out.set5 R,((chain (Below.refl _ _).drew hb1).mono (Nat.le_of_lt hS.out.lt)).setCell (p:=⟨g,5,none⟩) (Nat.le_refl _) _⟩
set_option maxHeartbeats 1000000 in
theorem popen_any (g:Nat) (k0 k1 k2 k3 k4 k5 R:ByteArray) (w:World) (hS:Hid (Six w g k0 k1 k2 k3 k4 k5)) (hK:Hid (Kh w))
  (WR:Hid (∀w,Kh w→Calls Tryz.prog 56 #[.string k2,.string k5] w fun e w'=>e = .returned (.tuple #[.string R,.int .i64 0])∧Below w.heap.size w w')) :
  Calls Tryz.prog 22 #[.pointer (some ⟨g,0,none⟩)] w fun e w'=>e = .returned (.tuple #[])∧Six w' g k0 k1 k2 k3 k4 R∧Below g w w':=by
 obtain⟨fz,-,-,c2,-,-,c5⟩:=hS.out
 have gl:=hS.out.lt
 go_enter Tryz.func22, Tryz.ntmps22
 go_wp2
 go_region_with (first|(go_at_call 56;refine Calls.mono (WR.out _ (Kh.later hK.out (Below.refl _ _).drew)) ?_;rintro e w1 ⟨rfl,hb1⟩;have H1:Hid (Six w1 g k0 k1 k2 k3 k4 k5):=Six.later (Six.drew hS.out) hb1;have c51:=H1.out.2.2.2.2.2.2;have f51:=H1.out.1 5))
 all_goals
  exact bodyPost_end (results_none Tryz.results22 _ _ _) rfl ⟨rfl,H1.out.set5 R,((chain (Below.refl _ _).drew hb1).mono (Nat.le_of_lt hS.out.lt)).setCell (p:=⟨g,5,none⟩) (Nat.le_refl _) _⟩
set_option maxHeartbeats 1000000 in
theorem ptext_any (g:Nat) (k0 k1 k2 k3 k4 k5 R:ByteArray) (E:Int) (w:World) (hS:Hid (Six w g k0 k1 k2 k3 k4 k5)) (hK:Hid (Kh w))
  (WR:Hid (∀w,Kh w→Calls Tryz.prog 57 #[.string k2,.string k5] w fun e w'=>e = .returned (.tuple #[.string R,.int .i64 E])∧Below w.heap.size w w')) :
  Calls Tryz.prog 23 #[.pointer (some ⟨g,0,none⟩)] w fun e w'=>e = .returned (.tuple #[.string R,.int .i64 E])∧Below w.heap.size w w':=by
 obtain⟨fz,-,-,c2,-,-,c5⟩:=hS.out
 have gl:=hS.out.lt
 go_enter Tryz.func23, Tryz.ntmps23
 go_wp2
 go_region_with (first|(go_at_call 57;refine Calls.mono (WR.out _ (Kh.later hK.out (Below.refl _ _).drew)) ?_;rintro e w1 ⟨rfl,hb1⟩;have H1:Hid (Below w.heap.size w w1):=chain (Below.refl _ _).drew hb1))
 all_goals
  go_wp2
  go_ret2
  exact⟨rfl,H1.out⟩
end Go.Proofs.YtgnkkjknngblbaaGreatDoor
