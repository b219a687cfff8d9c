/- A part of the walk. -/
import Derived.Test.YtjcppbhgjchjaaaGreatDoorZr3G20
set_option maxHeartbeats 8000000
set_option maxRecDepth 20000
namespace Go.Proofs.YtjcppbhgjchjaaaGreatDoor
open Go.RowKit Go.Proofs.Fd Go.Proofs.Rt
theorem zt0 (h:Hp) (hk:ok h=true) (w:Wo) :
  Cl 256 #[hv h] w fun e w'=>e = .returned (.int .i64 0)/\Bw w w':=by
 obtain⟨hw,hn,h1,h4⟩:=zxp h hk;have N0:Hid (∀w,Cl 302 #[hv h] w fun e w'=>e = .returned (hv h)/\Bw w w'):=fun w=>by have:=zsJ h w;rw[hn] at this;exact this
 have T0:Hid (∀w,Cl 309 #[hv h] w fun e w'=>e = .returned (.bool true)/\Bw w w'):=fun w=>zvD h hw w
 clear hw hn hk;obtain⟨k,n,u,d,id⟩:=h;simp only at h1 h4;unfold hv at N0 T0 ⊢;simp only at N0 T0 ⊢;have YY:(id.toList == id.toList)=true:=by simp
 have q1:¬k < 1:=by omega
 have q4:¬4 < k:=by omega
 have e1:decide (k < 1)=false:=decide_eq_false q1;have e4:decide (4 < k)=false:=decide_eq_false q4;go_enter Tryz.func256, Tryz.ntmps256;go_wp2_with fail;obtain⟨A,hA⟩:∃A,w.alloc (.cells #[.int .i64 k,.int .i64 n,.int .i64 u,.int .i64 d,.string id] 82)=A:=⟨_,rfl⟩;rw[hA];have H0:Hid (zsd A w.heap.size ⟨k,n,u,d,id⟩/\Bw w A):=by
  rw[<-hA];exact⟨zsd.fresh _ _ _ _ _ _ _,(bQ _ _).alloc (nL _) _⟩
 clear hA;obtain⟨p0,p1,p2,p3,p4⟩:=H0.out.1.cells;have KP:Hid (∀w',Bw A w'->Bw A w'/\w'.cell? ⟨w.heap.size,0,none⟩=some (.int .i64 k)/\w'.cell? ⟨w.heap.size,1,none⟩=some (.int .i64 n)/\w'.cell? ⟨w.heap.size,2,none⟩=some (.int .i64 u)/\w'.cell? ⟨w.heap.size,3,none⟩=some (.int .i64 d)/\w'.cell? ⟨w.heap.size,4,none⟩=some (.string id)):=fun w' h=>⟨h,cell_later h p0,cell_later h p1,cell_later h p2,cell_later h p3,cell_later h p4⟩
 go_region_held3 (fun w'=>Below A.heap.size A w'/\w'.cell? ⟨w.heap.size,0,none⟩=some (.int .i64 k)/\w'.cell? ⟨w.heap.size,1,none⟩=some (.int .i64 n)/\w'.cell? ⟨w.heap.size,2,none⟩=some (.int .i64 u)/\w'.cell? ⟨w.heap.size,3,none⟩=some (.int .i64 d)/\w'.cell? ⟨w.heap.size,4,none⟩=some (.string id)) (first|exact KP.out _ (bQ _ _).drew|exact KP.out _ (chain (And.left (by assumption)) hb3)|exact KP.out _ (chain (And.left (by assumption)) hb4)|assumption) (first|(go_at_call 302;refine cM (N0.out _) ?_;rintro e w3 ⟨rfl,hb3⟩)|(go_at_call 309;refine cM (T0.out _) ?_;rintro e w4 ⟨rfl,hb4⟩));rename_i hHeld;have B5:Hid (Bw w w4):=chain H0.out.2 hHeld.1;clear hHeld hb3 hb4 KP;go_wp2;go_ret;exact⟨rfl,B5.out⟩
theorem zvF (h:Hp) (h1:1<=h.k) (h4:h.k<=4) (hn:nm h=h) (hw:¬wi h=true) (w:Wo) :
  Cl 256 #[hv h] w fun e w'=>e = .returned (.int .i64 70)/\Bw w w':=by
 have N0:Hid (∀w,Cl 302 #[hv h] w fun e w'=>e = .returned (hv h)/\Bw w w'):=fun w=>by have:=zsJ h w;rw[hn] at this;exact this
 have T0:Hid (∀w,Cl 309 #[hv h] w fun e w'=>e = .returned (.bool false)/\Bw w w'):=fun w=>zvE h hw w
 clear hw hn;obtain⟨k,n,u,d,id⟩:=h;simp only at h1 h4;unfold hv at N0 T0 ⊢;simp only at N0 T0 ⊢;have YY:(id.toList == id.toList)=true:=by simp
 have q1:¬k < 1:=by omega
 have q4:¬4 < k:=by omega
 have e1:decide (k < 1)=false:=decide_eq_false q1;have e4:decide (4 < k)=false:=decide_eq_false q4;go_enter Tryz.func256, Tryz.ntmps256;go_wp2_with fail;obtain⟨A,hA⟩:∃A,w.alloc (.cells #[.int .i64 k,.int .i64 n,.int .i64 u,.int .i64 d,.string id] 82)=A:=⟨_,rfl⟩;rw[hA];have H0:Hid (zsd A w.heap.size ⟨k,n,u,d,id⟩/\Bw w A):=by
  rw[<-hA];exact⟨zsd.fresh _ _ _ _ _ _ _,(bQ _ _).alloc (nL _) _⟩
 clear hA;obtain⟨p0,p1,p2,p3,p4⟩:=H0.out.1.cells;have KP:Hid (∀w',Bw A w'->Bw A w'/\w'.cell? ⟨w.heap.size,0,none⟩=some (.int .i64 k)/\w'.cell? ⟨w.heap.size,1,none⟩=some (.int .i64 n)/\w'.cell? ⟨w.heap.size,2,none⟩=some (.int .i64 u)/\w'.cell? ⟨w.heap.size,3,none⟩=some (.int .i64 d)/\w'.cell? ⟨w.heap.size,4,none⟩=some (.string id)):=fun w' h=>⟨h,cell_later h p0,cell_later h p1,cell_later h p2,cell_later h p3,cell_later h p4⟩
 go_region_held3 (fun w'=>Below A.heap.size A w'/\w'.cell? ⟨w.heap.size,0,none⟩=some (.int .i64 k)/\w'.cell? ⟨w.heap.size,1,none⟩=some (.int .i64 n)/\w'.cell? ⟨w.heap.size,2,none⟩=some (.int .i64 u)/\w'.cell? ⟨w.heap.size,3,none⟩=some (.int .i64 d)/\w'.cell? ⟨w.heap.size,4,none⟩=some (.string id)) (first|exact KP.out _ (bQ _ _).drew|exact KP.out _ (chain (And.left (by assumption)) hb3)|exact KP.out _ (chain (And.left (by assumption)) hb4)|assumption) (first|(go_at_call 302;refine cM (N0.out _) ?_;rintro e w3 ⟨rfl,hb3⟩)|(go_at_call 309;refine cM (T0.out _) ?_;rintro e w4 ⟨rfl,hb4⟩));rename_i hHeld;have B5:Hid (Bw w w4):=chain H0.out.2 hHeld.1;clear hHeld hb3 hb4 KP;go_wp2;go_ret;exact⟨rfl,B5.out⟩
theorem zvG (k n u d:Int) (id:Ba) (n' u' d':Int) (id':Ba) (h1:1<=k) (h4:k<=4) (hn:nm ⟨k,n,u,d,id⟩=⟨k,n',u',d',id'⟩) (hq:(n == n')=false\/(u == u')=false\/(d == d')=false\/(id.toList == id'.toList)=false) (w:Wo) :
  Cl 256 #[hv ⟨k,n,u,d,id⟩] w fun e w'=>e = .returned (.int .i64 70)/\Bw w w':=by
 have N0:Hid (∀w,Cl 302 #[hv ⟨k,n,u,d,id⟩] w fun e w'=>e = .returned (hv ⟨k,n',u',d',id'⟩)/\Bw w w'):=fun w=>by have:=zsJ ⟨k,n,u,d,id⟩ w;rw[hn] at this;exact this
 clear hn;unfold hv at N0 ⊢;simp only at N0 ⊢;have q1:¬k < 1:=by omega
 have q4:¬4 < k:=by omega
 have e1:decide (k < 1)=false:=decide_eq_false q1;have e4:decide (4 < k)=false:=decide_eq_false q4;go_enter Tryz.func256, Tryz.ntmps256;go_wp2_with fail;have HB:Hid (∀w3,Below (w.alloc (.cells #[.int .i64 k,.int .i64 n,.int .i64 u,.int .i64 d,.string id] 82)).drew.heap.size (w.alloc (.cells #[.int .i64 k,.int .i64 n,.int .i64 u,.int .i64 d,.string id] 82)).drew w3->Bw w w3/\zsd w3 w.heap.size ⟨k,n,u,d,id⟩):=fun w3 h =>
  ⟨chain ((bQ _ _).alloc (nL _) _).drew h,((zsd.fresh _ _ _ _ _ _ _).later (bQ _ _).drew).later h⟩
 rcases hq with hq|hq|hq|hq
 all_goals
  first
  | (go_region_with (go_at_call 302;refine cM (N0.out _) ?_;rintro e w3 ⟨rfl,hb3⟩;have B5:Hid (Below w.heap.size w w3):=(HB.out _ hb3).1;obtain⟨r0,r1,r2,r3,r4⟩:=(HB.out _ hb3).2.cells;clear hb3))
  | fail
  all_goals
   go_wp2;go_ret;exact⟨rfl,B5.out⟩
theorem zuh (h:Hp) (h1:¬(1<=h.k/\h.k<=4)) (w:Wo) :
  Cl 256 #[hv h] w fun e w'=>e = .returned (.int .i64 70)/\Bw w w':=by
 obtain⟨k,n,u,d,id⟩:=h;simp only at h1;have B0:Hid (∀o,Bw w (w.alloc o).drew):=fun o=>((bQ _ _).alloc (nL _) o).drew
 have B1:Hid (∀o,Bw w (w.alloc o)):=fun o=>(bQ _ _).alloc (nL _) o
 unfold hv;simp only;by_cases q1:k < 1
 ·have e1:decide (k < 1)=true:=decide_eq_true q1
  go_enter Tryz.func256, Tryz.ntmps256;go_wp2_with fail
  first
  | (go_region_with (fail))
  | fail
  all_goals
   go_wp2;go_ret;exact⟨rfl,by first|exact B0.out _|exact B1.out _⟩
 ·have q4:4 < k:=by omega
  have e1:decide (k < 1)=false:=decide_eq_false q1;have e4:decide (4 < k)=true:=decide_eq_true q4;go_enter Tryz.func256, Tryz.ntmps256;go_wp2_with fail
  first
  | (go_region_with (fail))
  | fail
  all_goals
   go_wp2;go_ret;exact⟨rfl,by first|exact B0.out _|exact B1.out _⟩
theorem nm_k (h:Hp):(nm h).k=h.k:=by unfold nm;repeat' split <;> try rfl
theorem zuN:zw0:=fun h w _=>by
 by_cases hk:ok h=true
 ·rw[show chk h=0 from if_pos hk]
  exact zt0 h hk w
 ·rw[show chk h=70 from if_neg hk]
  by_cases h1:1<=h.k/\h.k<=4
  ·by_cases hn:nm h=h
   ·exact zvF h h1.1 h1.2 hn (fun hw=>hk (zxq h h1.1 h1.2 hn hw)) w
   ·obtain⟨k,n,u,d,id⟩:=h
    have e:=nm_k ⟨k,n,u,d,id⟩;obtain⟨⟨k',n',u',d',id'⟩,hx⟩:∃x,nm ⟨k,n,u,d,id⟩=x:=⟨_,rfl⟩;rw[hx] at hn e;simp only at e;subst e;refine zvG _ n u d id n' u' d' id' h1.1 h1.2 hx ?_ w;simp only[beq_eq_false_iff_ne];apply Classical.byContradiction;intro g;simp only[not_or,Classical.not_not] at g;obtain⟨g1,g2,g3,g4⟩:=g;rw[ByteArray.toList_eq,ByteArray.toList_eq] at g4;exact hn (by rw[g1,g2,g3,show id=id' from ByteArray.ext (Array.toList_inj.1 g4)])
  ·exact zuh h h1 w
end Go.Proofs.YtjcppbhgjchjaaaGreatDoor
