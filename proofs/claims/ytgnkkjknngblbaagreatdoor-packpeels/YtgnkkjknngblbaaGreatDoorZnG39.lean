/- Parts: HP6,PkH,PkP0,PkD0,HR1,HP2,HPA. -/
import Derived.Test.YtgnkkjknngblbaaGreatDoorZnG38
import Derived.Test.YtgnkkjknngblbaaGreatDoorZnG37
import Derived.Test.YtgnkkjknngblbaaGreatDoorZnG34
import Derived.Deep.RegionHeld3
import Derived.Test.YtgnkkjknngblbaaGreatDoorZnG29
import Derived.Test.YtgnkkjknngblbaaGreatDoorZnG33
namespace Go.Proofs.YtgnkkjknngblbaaGreatDoor
open Go.RowKit Go.Proofs.Fd Go.Proofs.Hs Go.Proofs.Cc Go.Proofs.Hd Go.Proofs.Rt
set_option maxRecDepth 20000
def Lb (seed:ByteArray) (ss:List ByteArray) (hs:List Hp) (j:Nat):ByteArray:=⟨(lsts hs.length (fun i=>hflow (nth ss i)) (fun i=>byt (hs.getD i zh)) (fun i l=>hmacf (nth ss i) l) (drv seed.data.toList lPad 200) j).toArray⟩
theorem Lb_data (seed:ByteArray) (ss:List ByteArray) (hs:List Hp) (j:Nat):(Lb seed ss hs j).data.toList=lsts hs.length (fun i=>hflow (nth ss i)) (fun i=>byt (hs.getD i zh)) (fun i l=>hmacf (nth ss i) l) (drv seed.data.toList lPad 200) j:=by unfold Lb;simp
theorem Lb_hlst (seed:ByteArray) (ss:List ByteArray) (hs:List Hp) (i:Nat):(Lb seed ss hs (hs.length - 1 - i)).data.toList=hlst seed ss hs i:=by rw[Lb_data];unfold hlst;with_reducible rfl
def Ins (seed:ByteArray) (ss:List ByteArray) (hs:List Hp):Nat→ByteArray
 | 0=>zba 16++hdk seed lPad 200
 | j+1=>hmb (nth ss (hs.length - 1 - j)) (Lb seed ss hs j)++Lb seed ss hs j
def En (ss:List ByteArray) (m:Nat):Nat→ByteArray
 | 0=>fbs ss m
 | _+1=>⟨#[]⟩
theorem Ins_zero (seed:ByteArray) (ss:List ByteArray) (hs:List Hp):Ins seed ss hs 0=zba 16++hdk seed lPad 200:=by rw[Ins]
theorem Ins_succ (seed:ByteArray) (ss:List ByteArray) (hs:List Hp) (j:Nat):Ins seed ss hs (j+1)=hmb (nth ss (hs.length - 1 - j)) (Lb seed ss hs j)++Lb seed ss hs j:=by rw[Ins]
theorem Lb_size (seed:ByteArray) (ss:List ByteArray) (hs:List Hp) (h:hs.all ok=true) (hn:1≤hs.length∧hs.length≤5) (j:Nat) (hj:j < hs.length):(Lb seed ss hs j).size=200:=by
 obtain⟨e,-⟩:=(hlst_are seed ss hs h hn).ends (hs.length - 1 - j) (by omega)
 rw[←Lb_hlst,list_sz,show hs.length - 1 - (hs.length - 1 - j)=j by omega] at e
 exact e
theorem Ins_size (seed:ByteArray) (ss:List ByteArray) (hs:List Hp) (h:hs.all ok=true) (hn:1≤hs.length∧hs.length≤5) (j:Nat) (hj:j≤hs.length):(Ins seed ss hs j).size=216:=by
 cases j with
 | zero=>rw[Ins_zero,ba_add,zba_size,hdk_size]
 | succ j=>rw[Ins_succ,ba_add,hmb_size,Lb_size seed ss hs h hn j (by omega)]
theorem En_size (ss:List ByteArray) (m:Nat) (hm:m≤6) (j:Nat):(En ss m j).size=if j=0 then 40*m else 0:=by
 cases j with
 | zero=>show (fbs ss m).size=_;rw[fbs_size ss m hm,if_pos rfl]
 | succ j=>rw[if_neg (by omega)];rfl
theorem Lb_step (seed:ByteArray) (ss:List ByteArray) (hs:List Hp) (h:hs.all ok=true) (hn:1≤hs.length∧hs.length≤5) (m j i:Nat) (hm:m+1=hs.length) (hi:i+j=m) :
  htn (nth ss i) ((⟨(byt (hs.getD i zh)).toArray⟩++Ins seed ss hs j).extract 0 (200 - (En ss m j).size))++En ss m j=Lb seed ss hs j:=by
 have e:(htn (nth ss i) ((⟨(byt (hs.getD i zh)).toArray⟩++Ins seed ss hs j).extract 0 (200 - (En ss m j).size))++En ss m j).data.toList=(Lb seed ss hs j).data.toList:=by
  rw[ba_app]
  unfold htn
  have x1:∀l:List UInt8,((⟨l.toArray⟩:ByteArray).data.toList)=l:=fun l=>by simp
  rw[x1]
  have x2:((⟨(byt (hs.getD i zh)).toArray⟩++Ins seed ss hs j).extract 0 (200 - (En ss m j).size)).data.toList=(byt (hs.getD i zh)++(Ins seed ss hs j).data.toList).take (200 - (En ss m j).size):=by
   rw[ByteArray.data_extract,Array.toList_extract,List.extract_eq_take_drop,List.drop_zero,ba_app,x1,Nat.sub_zero]
  rw[x2,Lb_data,En_size ss m (by omega) j]
  cases j with
  | zero =>
   obtain rfl:i=m:=by omega
   rw[lsts,if_pos rfl,Ins_zero,ba_app,zba_data,hdk_data,show hs.length - 1=i by omega,List.append_assoc]
   rfl
  | succ j =>
   have l1:(byt (hs.getD i zh)).length=24:=byt_len' hs h i
   have l2:(lsts hs.length (fun i=>hflow (nth ss i)) (fun i=>byt (hs.getD i zh)) (fun i l=>hmacf (nth ss i) l) (drv seed.data.toList lPad 200) j).length=200:=by
    rw[←Lb_data,list_sz,Lb_size seed ss hs h hn j (by omega)]
   rw[lsts,if_neg (by omega),Ins_succ,ba_app,Lb_data]
   have x3:(hmb (nth ss (hs.length - 1 - j)) (Lb seed ss hs j)).data.toList=hmacf (nth ss (hs.length - 1 - j)) (lsts hs.length (fun i=>hflow (nth ss i)) (fun i=>byt (hs.getD i zh)) (fun i l=>hmacf (nth ss i) l) (drv seed.data.toList lPad 200) j):=by
    unfold hmb;rw[x1,Lb_data]
   rw[x3,show hs.length - 2 - j=i by omega]
   have x4:(En ss m (j+1)).data.toList=[]:=rfl
   rw[x4,List.append_nil]
   generalize lsts hs.length (fun i=>hflow (nth ss i)) (fun i=>byt (hs.getD i zh)) (fun i l=>hmacf (nth ss i) l) (drv seed.data.toList lPad 200) j=L at *
   have l3:=hmacf_len (nth ss (hs.length - 1 - j)) L
   generalize hmacf (nth ss (hs.length - 1 - j)) L=M at *
   generalize byt (hs.getD i zh)=C at *
   congr 1
   rw[←List.append_assoc,List.take_append,List.length_append,l1,l3,List.take_of_length_le (by rw[List.length_append,l1,l3];decide)]
 exact ByteArray.ext (Array.toList_inj.1 e)
theorem Ins_all (seed:ByteArray) (ss:List ByteArray) (hs:List Hp) (hn:1≤hs.length):ptB seed []++Ins seed ss hs hs.length=⟨(hhead seed ss hs 0).toArray⟩:=by
 obtain⟨m,hm⟩:∃m,hs.length=m+1:=⟨hs.length - 1,by omega⟩
 apply ba_of
 have e:hs.length - 1 - m=0:=by omega
 rw[ba_app]
 conv=>lhs;rw[hm]
 rw[Ins_succ,e,ba_app]
 unfold hhead
 have x:(hmb (nth ss 0) (Lb seed ss hs m)).data.toList=hmacf (nth ss 0) (Lb seed ss hs m).data.toList:=by unfold hmb;simp
 have y:(Lb seed ss hs m).data.toList=hlst seed ss hs 0:=by rw[←Lb_hlst,hm];rfl
 rw[x,y,List.take_zero,List.map_nil,List.append_assoc]
end Go.Proofs.YtgnkkjknngblbaaGreatDoor
namespace Go.Proofs.YtgnkkjknngblbaaGreatDoor
open Go.RowKit Go.Proofs.Fd Go.Proofs.Hs Go.Proofs.Cc Go.Proofs.Hd Go.Proofs.Rt Go.Proofs.Wd
set_option maxRecDepth 20000
theorem mk_ok (seed:ByteArray) (pts:List ByteArray) (hs:List Hp) (h:mkE seed pts hs=0):(mkH seed pts hs).size=248∧1≤(mkS seed pts hs).length∧(mkS seed pts hs).length≤5:=by
 have eH:mkH seed pts hs=⟨(hhead seed (mkS seed pts hs) hs 0).toArray⟩:=by unfold mkH;rw[if_pos h]
 have eS:mkS seed pts hs=(secs seed pts []).getD []:=by unfold mkS;rw[if_pos h]
 have hp:pth hs=0:=by
  unfold mkE at h
  by_cases q:pth hs=0
  ·exact q
  ·rw[if_neg q] at h;exact h
 have h':=h
 unfold mkE at h'
 rw[if_pos hp] at h'
 by_cases q2:pts.length=hs.length
 ·rw[if_pos q2] at h'
  by_cases q3:seed.size=32∧(pts.all fun p=>p.size == 32)=true
  ·rw[if_pos q3] at h'
   obtain⟨r1,r2,r3,-⟩:=pth_zero hs hp
   cases hsec:secs seed pts [] with
   | none=>rw[hsec] at h';cases h'
   | some ss =>
    have e:mkS seed pts hs=ss:=by rw[eS,hsec];rfl
    have l:ss.length=pts.length:=secsG_len _ _ _ _ _ hsec
    refine⟨?_,by rw[e];omega,by rw[e];omega⟩
    rw[eH,←Ins_all seed _ hs r2,ba_add,ptB_size,Ins_size seed _ hs r1 ⟨r2,r3⟩ _ (Nat.le_refl _)]
  ·rw[if_neg q3] at h';cases h'
 ·rw[if_neg q2] at h';cases h'
def pbd (ss:List ByteArray) (t:ByteArray) (i:Nat):ByteArray:=⟨(pld (ss.drop i) t.data.toList).toArray⟩
theorem pbd_size (ss:List ByteArray) (t:ByteArray) (i:Nat) (ht:t.size≤222):(pbd ss t i).size=256:=by unfold pbd;rw[ba_sz,pld_len _ _ (by rw[list_sz];exact ht)]
theorem drop_nth (ss:List ByteArray) (i:Nat) (hi:i < ss.length):ss.drop i=nth ss i::ss.drop (i+1):=by
 unfold nth
 rw[List.getD_eq_getElem?_getD,List.getElem?_eq_getElem hi]
 exact List.drop_eq_getElem_cons hi
theorem shV_pbd (ss:List ByteArray) (t:ByteArray) (i:Nat) (hi:i < ss.length) (ht:t.size≤222):shV (hdk (nth ss i) lBody 32) (pbd ss t (i+1))=#[.string (pbd ss t i),.int .i64 0]:=by
 rw[shV_ok _ _ (by rw[pbd_size _ _ _ ht];decide) (by rw[pbd_size _ _ _ ht];decide)]
 have e:pbd ss t i=⟨(shutl (hdk (nth ss i) lBody 32).data.toList (pbd ss t (i+1)).data.toList).toArray⟩:=by
  show (⟨(pld (ss.drop i) t.data.toList).toArray⟩:ByteArray)=_
  rw[drop_nth ss i hi,pld_cons]
  rfl
 rw[←e]
theorem wrV_pbd (ss:List ByteArray) (t:ByteArray) (i:Nat) (hi:i+1=ss.length) (ht:t.size≤222):wrV (hdk (nth ss i) lBody 32) t 256=#[.string (pbd ss t i),.int .i64 0]:=by
 have h:=wrV_ok (hdk (nth ss i) lBody 32) t 256 (by decide) (by decide) (by omega)
 have e:pbd ss t i=⟨(shutl (hdk (nth ss i) lBody 32).data.toList (plainl t.data.toList 256)).toArray⟩:=by
  show (⟨(pld (ss.drop i) t.data.toList).toArray⟩:ByteArray)=_
  rw[drop_nth ss i (by omega),pld_cons,List.drop_of_length_le (by omega),pld_nil]
  rfl
 rw[e]
 exact h
theorem pm_parts (seed:ByteArray) (pts:List ByteArray) (t:ByteArray) (hs:List Hp) (h:mkE seed pts hs=0) (ht:t.size≤222):pmE seed pts t hs=0∧pmB seed pts t hs=mkH seed pts hs++pbd (mkS seed pts hs) t 0:=by
 obtain⟨h1,h2⟩:=pm_ok seed pts t hs h ht
 refine⟨h1,?_⟩
 rw[h2]
 apply ByteArray.ext
 simp[pbd]
end Go.Proofs.YtgnkkjknngblbaaGreatDoor
namespace Go.Proofs.YtgnkkjknngblbaaGreatDoor
open Go.RowKit Go.Proofs.Fd Go.Proofs.Hs Go.Proofs.Cc Go.Proofs.Hd Go.Proofs.Rt Go.Proofs.Wd
set_option maxRecDepth 20000
theorem Six.drew {w:World} {g:Nat} {k0 k1 k2 k3 k4 k5:ByteArray} (h:Six w g k0 k1 k2 k3 k4 k5):Six w.drew g k0 k1 k2 k3 k4 k5:=h.later (Below.refl _ _).drew
theorem Six.put5 {w:World} {g:Nat} {k0 k1 k2 k3 k4 k5:ByteArray} (h:Six w g k0 k1 k2 k3 k4 k5) (y0 y1 y2 y3 y4:ByteArray) :
  Six (((((w.setCell ⟨g,0,none⟩ (.string y0)).setCell ⟨g,1,none⟩ (.string y1)).setCell ⟨g,2,none⟩ (.string y2)).setCell ⟨g,3,none⟩ (.string y3)).setCell ⟨g,4,none⟩ (.string y4)) g y0 y1 y2 y3 y4 k5:=by
 obtain⟨f,h0,h1,h2,h3,h4,h5⟩:=h
 refine⟨fun o=>by simp[go_sem,f],?_,?_,?_,?_,?_,?_⟩ <;> simp[go_sem,h0,h1,h2,h3,h4,h5]
set_option maxHeartbeats 1000000 in
theorem pwrap_any (g:Nat) (k0 k1 k2 k3 k4 k5 t R:ByteArray) (w:World) (hS:Hid (Six w g k0 k1 k2 k3 k4 k5)) (hK:Hid (Kh w))
  (WR:Hid (∀w,Kh w→Calls Tryz.prog 70 #[.string k2,.string t,.int .i64 256] w fun e w'=>e = .returned (.tuple #[.string R,.int .i64 0])∧Below w.heap.size w w')) :
  Calls Tryz.prog 32 #[.pointer (some ⟨g,0,none⟩),.string t] w fun e w'=>e = .returned (.tuple #[])∧Six w' g k0 k1 k2 k3 k4 R∧Below g w w':=by
 obtain⟨fz,-,-,c2,-,-,c5⟩:=hS.out
 have gl:=hS.out.lt
 go_enter Tryz.func32, Tryz.ntmps32
 go_wp2_with fail
 refine Calls.mono (WR.out _ hK.out) ?_
 rintro e w1 ⟨rfl,hb1⟩
 have H1:Hid (Six w1 g k0 k1 k2 k3 k4 k5∧Below g w w1):=⟨Six.later hS.out hb1,hb1.mono (Nat.le_of_lt hS.out.lt)⟩
 have c51:=H1.out.1.2.2.2.2.2.2
 have f51:=H1.out.1.1 5
 clear hb1 WR c2 c5
 go_wp2
 exact bodyPost_end (results_none Tryz.results32 _ _ _) rfl ⟨rfl,H1.out.1.set5 R,H1.out.2.setCell (p:=⟨g,5,none⟩) (Nat.le_refl _) _⟩
set_option maxHeartbeats 1000000 in
theorem pshut_any (g:Nat) (k0 k1 k2 k3 k4 k5 R:ByteArray) (w:World) (hS:Hid (Six w g k0 k1 k2 k3 k4 k5)) (hK:Hid (Kh w))
  (WR:Hid (∀w,Kh w→Calls Tryz.prog 71 #[.string k2,.string k5] w fun e w'=>e = .returned (.tuple #[.string R,.int .i64 0])∧Below w.heap.size w w')) :
  Calls Tryz.prog 33 #[.pointer (some ⟨g,0,none⟩)] w fun e w'=>e = .returned (.tuple #[])∧Six w' g k0 k1 k2 k3 k4 R∧Below g w w':=by
 obtain⟨fz,-,-,c2,-,-,c5⟩:=hS.out
 have gl:=hS.out.lt
 go_enter Tryz.func33, Tryz.ntmps33
 go_wp2
 go_region_with (first|(go_at_call 71;refine Calls.mono (WR.out _ (Kh.later hK.out (Below.refl _ _).drew)) ?_;rintro e w1 ⟨rfl,hb1⟩;have H1:Hid (Six w1 g k0 k1 k2 k3 k4 k5):=Six.later (Six.drew hS.out) hb1;have c51:=H1.out.2.2.2.2.2.2;have f51:=H1.out.1 5))
 all_goals
  exact bodyPost_end (results_none Tryz.results33 _ _ _) rfl ⟨rfl,H1.out.set5 R,((chain (Below.refl _ _).drew hb1).mono (Nat.le_of_lt hS.out.lt)).setCell (p:=⟨g,5,none⟩) (Nat.le_refl _) _⟩
set_option maxHeartbeats 1000000 in
theorem popen_any (g:Nat) (k0 k1 k2 k3 k4 k5 R:ByteArray) (w:World) (hS:Hid (Six w g k0 k1 k2 k3 k4 k5)) (hK:Hid (Kh w))
  (WR:Hid (∀w,Kh w→Calls Tryz.prog 56 #[.string k2,.string k5] w fun e w'=>e = .returned (.tuple #[.string R,.int .i64 0])∧Below w.heap.size w w')) :
  Calls Tryz.prog 22 #[.pointer (some ⟨g,0,none⟩)] w fun e w'=>e = .returned (.tuple #[])∧Six w' g k0 k1 k2 k3 k4 R∧Below g w w':=by
 obtain⟨fz,-,-,c2,-,-,c5⟩:=hS.out
 have gl:=hS.out.lt
 go_enter Tryz.func22, Tryz.ntmps22
 go_wp2
 go_region_with (first|(go_at_call 56;refine Calls.mono (WR.out _ (Kh.later hK.out (Below.refl _ _).drew)) ?_;rintro e w1 ⟨rfl,hb1⟩;have H1:Hid (Six w1 g k0 k1 k2 k3 k4 k5):=Six.later (Six.drew hS.out) hb1;have c51:=H1.out.2.2.2.2.2.2;have f51:=H1.out.1 5))
 all_goals
  exact bodyPost_end (results_none Tryz.results22 _ _ _) rfl ⟨rfl,H1.out.set5 R,((chain (Below.refl _ _).drew hb1).mono (Nat.le_of_lt hS.out.lt)).setCell (p:=⟨g,5,none⟩) (Nat.le_refl _) _⟩
set_option maxHeartbeats 1000000 in
theorem ptext_any (g:Nat) (k0 k1 k2 k3 k4 k5 R:ByteArray) (E:Int) (w:World) (hS:Hid (Six w g k0 k1 k2 k3 k4 k5)) (hK:Hid (Kh w))
  (WR:Hid (∀w,Kh w→Calls Tryz.prog 57 #[.string k2,.string k5] w fun e w'=>e = .returned (.tuple #[.string R,.int .i64 E])∧Below w.heap.size w w')) :
  Calls Tryz.prog 23 #[.pointer (some ⟨g,0,none⟩)] w fun e w'=>e = .returned (.tuple #[.string R,.int .i64 E])∧Below w.heap.size w w':=by
 obtain⟨fz,-,-,c2,-,-,c5⟩:=hS.out
 have gl:=hS.out.lt
 go_enter Tryz.func23, Tryz.ntmps23
 go_wp2
 go_region_with (first|(go_at_call 57;refine Calls.mono (WR.out _ (Kh.later hK.out (Below.refl _ _).drew)) ?_;rintro e w1 ⟨rfl,hb1⟩;have H1:Hid (Below w.heap.size w w1):=chain (Below.refl _ _).drew hb1))
 all_goals
  go_wp2
  go_ret2
  exact⟨rfl,H1.out⟩
end Go.Proofs.YtgnkkjknngblbaaGreatDoor
namespace Go.Proofs.YtgnkkjknngblbaaGreatDoor
open Go.RowKit Go.Proofs.Fd Go.Proofs.Hs Go.Proofs.Cc Go.Proofs.Hd Go.Proofs.Rt Go.Proofs.Wd
set_option maxRecDepth 20000
theorem hpl_no_ne {p h:ByteArray} {e:Int} (q:hpl p h = .error e):¬e=0:=by
 unfold hpl at q
 split at q
 ·split at q
  ·cases q;decide
  ·split at q
   ·split at q
    ·cases q;decide
    ·cases q
   ·cases q;decide
 ·cases q;decide
theorem hpl_on_size {p h:ByteArray} {x:Hp} {n s:ByteArray} (q:hpl p h = .ok (x,n,s)):n.size≤248:=by
 unfold hpl at q
 split at q
 ·rename_i hz
  split at q
  ·cases q
  ·split at q
   ·split at q
    ·cases q
    ·cases q
     split
     ·rw[ba_sz,List.length_append,list_sz,Crv.ek_size,List.length_drop]
      unfold hplain
      rw[xorl_len _ _ (by rw[List.length_append,List.length_replicate,List.length_drop,list_sz,hflow_len,hz.2];decide),List.length_append,List.length_replicate,List.length_drop,list_sz,hz.2]
      decide
     ·decide
   ·cases q
 ·cases q
theorem res_pd (tmps:Array Value) (w:World) (b:Nat) (x:Hp) (n t s:ByteArray) (e:Int) (h4:tmps.getD 4 undef = .pointer (some ⟨b,0,none⟩)) (h5:tmps.getD 5 undef = .int .i64 e) (l:PdAt w b x n t s) :
  (results Tryz.f12 tmps).run Tryz.prog w = .ok (.tuple #[pdv x n t s,.int .i64 e]) w:=by
 have l1:=run_loadVar_mid (P:=Tryz.prog) w b 0 36 [.int .i64 x.k,.int .i64 x.n,.int .i64 x.u,.int .i64 x.d,.string x.id,.string n,.string t,.string s] _ l.range Tryz.underlying36 rfl (by kernel_rfl)
 unfold results
 rw[Tryz.results12]
 have h4':tmps[4]?.getD undef = .pointer (some ⟨b,0,none⟩):=by simpa using h4
 have h5':tmps[5]?.getD undef = .int .i64 e:=by simpa using h5
 unfold pdv
 simp[h4',h5',l1,asAddr]
theorem PdAt.zero (w:World):PdAt (w.alloc (.cells #[.int .i64 0,.int .i64 0,.int .i64 0,.int .i64 0,.string ⟨#[]⟩,.string ⟨#[]⟩,.string ⟨#[]⟩,.string ⟨#[]⟩] 36)) w.heap.size zh ⟨#[]⟩ ⟨#[]⟩ ⟨#[]⟩:=PdAt.new w 36 0 0 0 0 ⟨#[]⟩ ⟨#[]⟩ ⟨#[]⟩ ⟨#[]⟩
set_option maxHeartbeats 400000 in
theorem pPeel_form (p b:ByteArray) (hb:b.size≠504) (w:World) :
  Calls Tryz.prog 12 #[.string p,.string b] w fun e w'=>e = .returned (.tuple #[pdz,.int .i64 3])∧Below w.heap.size w w':=by
 have g1:((b.size:Int) != 504)=true:=by simp;omega
 obtain⟨A,hA⟩:∃A,w.alloc (.cells #[.int .i64 0,.int .i64 0,.int .i64 0,.int .i64 0,.string ⟨#[]⟩,.string ⟨#[]⟩,.string ⟨#[]⟩,.string ⟨#[]⟩] 36)=A:=⟨_,rfl⟩
 have J:Hid (PdAt A w.heap.size zh ⟨#[]⟩ ⟨#[]⟩ ⟨#[]⟩∧Below w.heap.size w A):=by
  rw[←hA]
  exact⟨PdAt.new _ _ 0 0 0 0 _ _ _ _,(Below.refl _ _).alloc (Nat.le_refl _) _⟩
 have F:Hid (PdAt (putP A w.heap.size zh ⟨#[]⟩ ⟨#[]⟩ ⟨#[]⟩) w.heap.size zh ⟨#[]⟩ ⟨#[]⟩ ⟨#[]⟩∧Below w.heap.size w (putP A w.heap.size zh ⟨#[]⟩ ⟨#[]⟩ ⟨#[]⟩)):=⟨J.out.1.put _ _ _ _,below_putP J.out.2 (Nat.le_refl _) _ _ _ _⟩
 unfold putP zh at F
 obtain⟨⟨h0,h1,h2,h3,h4,h5,h6,h7⟩,z0,z1,z2,z3,z4,z5,z6,z7⟩:=PdAt.cells (k:=0) (n:=0) (u:=0) (d:=0) (id:=⟨#[]⟩) J.out.1
 go_enter Tryz.func12, Tryz.ntmps12
 go_wp2
 refine bodyPost_ret (v := .tuple #[pdz,.int .i64 3]) ?_ rfl ⟨rfl,F.out.2⟩
 exact res_pd _ _ w.heap.size zh _ _ _ 3 (by kernel_rfl) (by kernel_rfl) F.out.1
theorem PdAt.above {g:Nat} {w w':World} {b:Nat} {x:Hp} {n t s:ByteArray} (h:PdAt w b x n t s) (hb:Below g w w') (hlt:b < g):PdAt w' b x n t s:=by
 obtain⟨f,h0,h1,h2,h3,h4,h5,h6,h7⟩:=h
 have e:∀j,w'.cell? ⟨b,j,none⟩=w.cell? ⟨b,j,none⟩:=fun j=>hb.cell hlt
 have e2:∀j,w'.frozen? ⟨b,j,none⟩=w.frozen? ⟨b,j,none⟩:=fun j=>hb.frozen hlt
 exact⟨fun j=>by rw[e2,f],by rw[e,h0],by rw[e,h1],by rw[e,h2],by rw[e,h3],by rw[e,h4],by rw[e,h5],by rw[e,h6],by rw[e,h7]⟩
theorem HopAt.above {g:Nat} {w w':World} {b:Nat} {x:Hp} (h:HopAt w b x) (hb:Below g w w') (hlt:b < g):HopAt w' b x:=by
 obtain⟨f,h0,h1,h2,h3,h4⟩:=h
 have e:∀j,w'.cell? ⟨b,j,none⟩=w.cell? ⟨b,j,none⟩:=fun j=>hb.cell hlt
 have e2:∀j,w'.frozen? ⟨b,j,none⟩=w.frozen? ⟨b,j,none⟩:=fun j=>hb.frozen hlt
 exact⟨fun j=>by rw[e2,f],by rw[e,h0],by rw[e,h1],by rw[e,h2],by rw[e,h3],by rw[e,h4]⟩
end Go.Proofs.YtgnkkjknngblbaaGreatDoor
namespace Go.Proofs.YtgnkkjknngblbaaGreatDoor
open Go.RowKit Go.Proofs.Fd Go.Proofs.Hs Go.Proofs.Cc Go.Proofs.Hd Go.Proofs.Rt
set_option maxRecDepth 20000
theorem rhk (s:ByteArray) (l:List UInt8) (n:Nat) (hn:n≤255) (hl:l.length≤100) (hs:Hid (s.size+64≤140737488355328)) (w:World) :
  Calls Tryz.prog 38 #[.string s,.string ⟨l.toArray⟩,.int .i64 (n:Int)] w fun e w'=>e = .returned (.string (hdk s l n))∧Below w.heap.size w w':=by
 have:=rKey_any s ⟨l.toArray⟩ n (by omega) hs (by show (⟨l.toArray⟩:ByteArray).size+97≤_;rw[ba_sz];omega) w
 have e:(⟨l.toArray⟩:ByteArray).data.toList=l:=by simp
 rw[e] at this
 exact this
theorem res_rof (tmps:Array Value) (w:World) (b:Nat) (k0 k1 k2 k3 k4:ByteArray) (h2:tmps.getD 2 undef = .pointer (some ⟨b,0,none⟩)) (l:Five w b k0 k1 k2 k3 k4) :
  (results Tryz.f59 tmps).run Tryz.prog w = .ok (.agg #[.string k0,.string k1,.string k2,.string k3,.string k4]) w:=by
 have l1:=run_loadVar_mid (P:=Tryz.prog) w b 0 53 [.string k0,.string k1,.string k2,.string k3,.string k4] _ l.range Tryz.underlying53 rfl (by kernel_rfl)
 unfold results
 rw[Tryz.results59]
 have h2':tmps[2]?.getD undef = .pointer (some ⟨b,0,none⟩):=by simpa using h2
 simp[h2',l1,asAddr]
set_option maxHeartbeats 1000000 in
theorem rOf_any (s:ByteArray) (hs:Hid (s.size+64≤140737488355328)) (w:World) :
  Calls Tryz.prog 59 #[.string s] w fun e w'=>e = .returned (kv s)∧Below w.heap.size w w':=by
 have D1:Hid (∀w,Calls Tryz.prog 38 #[.string s,.string ⟨#[102,108,111,119]⟩,.int .i64 32] w fun e w'=>e = .returned (.string (hdk s lFlow 32))∧Below w.heap.size w w'):=fun w=>rhk s lFlow 32 (by decide) (by decide) hs w
 have D2:Hid (∀w,Calls Tryz.prog 38 #[.string s,.string ⟨#[109,97,99]⟩,.int .i64 32] w fun e w'=>e = .returned (.string (hdk s lMac 32))∧Below w.heap.size w w'):=fun w=>rhk s lMac 32 (by decide) (by decide) hs w
 have D3:Hid (∀w,Calls Tryz.prog 38 #[.string s,.string ⟨#[98,111,100,121]⟩,.int .i64 32] w fun e w'=>e = .returned (.string (hdk s lBody 32))∧Below w.heap.size w w'):=fun w=>rhk s lBody 32 (by decide) (by decide) hs w
 have D4:Hid (∀w,Calls Tryz.prog 38 #[.string s,.string ⟨#[98,108,105,110,100]⟩,.int .i64 32] w fun e w'=>e = .returned (.string (bld s))∧Below w.heap.size w w'):=fun w=>rhk s lBlind 32 (by decide) (by decide) hs w
 have D5:Hid (∀w,Calls Tryz.prog 38 #[.string s,.string ⟨#[116,97,103]⟩,.int .i64 16] w fun e w'=>e = .returned (.string (hdk s lTag 16))∧Below w.heap.size w w'):=fun w=>rhk s lTag 16 (by decide) (by decide) hs w
 unfold kv
 generalize hdk s lFlow 32=k0 at *
 generalize hdk s lMac 32=k1 at *
 generalize hdk s lBody 32=k2 at *
 generalize bld s=k3 at *
 generalize hdk s lTag 16=k4 at *
 clear hs
 go_enter Tryz.func59, Tryz.ntmps59
 go_wp2_with fail
 have S0:Hid (Five (w.alloc (.cells #[.string ⟨#[]⟩,.string ⟨#[]⟩,.string ⟨#[]⟩,.string ⟨#[]⟩,.string ⟨#[]⟩] 53)) w.heap.size ⟨#[]⟩ ⟨#[]⟩ ⟨#[]⟩ ⟨#[]⟩ ⟨#[]⟩∧Below w.heap.size w (w.alloc (.cells #[.string ⟨#[]⟩,.string ⟨#[]⟩,.string ⟨#[]⟩,.string ⟨#[]⟩,.string ⟨#[]⟩] 53))):=⟨Five.new _ _ _ _ _ _ _,(Below.refl _ _).alloc (Nat.le_refl _) _⟩
 refine Calls.mono (D1.out _) ?_
 rintro e w1 ⟨rfl,hb⟩
 have S1:Hid (Five w1 w.heap.size ⟨#[]⟩ ⟨#[]⟩ ⟨#[]⟩ ⟨#[]⟩ ⟨#[]⟩∧Below w.heap.size w w1):=⟨S0.out.1.later hb,chain S0.out.2 hb⟩
 clear hb S0 D1
 go_wp2_with fail
 refine Calls.mono (D2.out _) ?_
 rintro e w2 ⟨rfl,hb⟩
 have S2:Hid (Five w2 w.heap.size ⟨#[]⟩ ⟨#[]⟩ ⟨#[]⟩ ⟨#[]⟩ ⟨#[]⟩∧Below w.heap.size w w2):=⟨S1.out.1.later hb,chain S1.out.2 hb⟩
 clear hb S1 D2
 go_wp2_with fail
 refine Calls.mono (D3.out _) ?_
 rintro e w3 ⟨rfl,hb⟩
 have S3:Hid (Five w3 w.heap.size ⟨#[]⟩ ⟨#[]⟩ ⟨#[]⟩ ⟨#[]⟩ ⟨#[]⟩∧Below w.heap.size w w3):=⟨S2.out.1.later hb,chain S2.out.2 hb⟩
 clear hb S2 D3
 go_wp2_with fail
 refine Calls.mono (D4.out _) ?_
 rintro e w4 ⟨rfl,hb⟩
 have S4:Hid (Five w4 w.heap.size ⟨#[]⟩ ⟨#[]⟩ ⟨#[]⟩ ⟨#[]⟩ ⟨#[]⟩∧Below w.heap.size w w4):=⟨S3.out.1.later hb,chain S3.out.2 hb⟩
 clear hb S3 D4
 go_wp2_with fail
 refine Calls.mono (D5.out _) ?_
 rintro e w5 ⟨rfl,hb⟩
 have S5:Hid (Five w5 w.heap.size ⟨#[]⟩ ⟨#[]⟩ ⟨#[]⟩ ⟨#[]⟩ ⟨#[]⟩∧Below w.heap.size w w5):=⟨S4.out.1.later hb,chain S4.out.2 hb⟩
 clear hb S4 D5
 obtain⟨gz,d0,d1,d2,d3,d4⟩:=S5.out.1
 have e0:=gz 0
 have e1:=gz 1
 have e2:=gz 2
 have e3:=gz 3
 have e4:=gz 4
 have FF:Hid (_∧_):=And.intro (Five.whole S5.out.1 k0 k1 k2 k3 k4) (below_five S5.out.2 (Nat.le_refl w.heap.size) (.string k0) (.string k1) (.string k2) (.string k3) (.string k4))
 clear gz S5
 go_wp2
 refine bodyPost_ret (v := .agg #[.string k0,.string k1,.string k2,.string k3,.string k4]) ?_ rfl ⟨rfl,FF.out.2⟩
 exact res_rof _ _ w.heap.size k0 k1 k2 k3 k4 (by kernel_rfl) FF.out.1
set_option maxHeartbeats 1000000 in
theorem rzeros_any (n:Nat) (hn:n≤1000) (w:World) :
  Calls Tryz.prog 37 #[.int .i64 (n:Int)] w fun e w'=>e = .returned (.string (zba n))∧Below w.heap.size w w':=by
 obtain⟨A,CA,BA,bA,sA⟩:=make_n n (by omega) w
 have CV:(convert 43 9 (.slice (some ⟨w.heap.size,0,none⟩) n n)).run Tryz.prog A = .ok (.string (zba n)) A:=BA.string (by simp)
 have B1:Hid (Below w.heap.size w A):=bA
 generalize zba n=Z at *
 clear BA bA sA hn
 go_enter Tryz.func37, Tryz.ntmps37
 go_wp2
 go_ret
 exact⟨rfl,B1.out⟩
theorem make12 (w:World):(Instr.makeSlice 43 (.int .i64 12) (.int .i64 12)).run Tryz.prog w = .ok (.slice (some ⟨w.heap.size,0,none⟩) 12 12) (w.alloc (.cells (Array.replicate 12 (.int .u8 0)) 5)):=by kernel_rfl
theorem made12 (w W:World) (h:W=w.alloc (.cells (Array.replicate 12 (.int .u8 0)) 5)):(convert 43 9 (.slice (some ⟨w.heap.size,0,none⟩) 12 12)).run Tryz.prog W = .ok (.string (zba 12)) W:=by
 subst h
 have hB:BytesAt (w.alloc (.cells (Array.replicate 12 (.int .u8 0)) 5)) w.heap.size (List.replicate 12 0):=fun j hj=>by
  have hj':j < 12:=by simpa using hj
  refine⟨?_,by simp[go_sem]⟩
  rw[World.cell?_alloc_new,List.getElem_replicate,Array.getElem?_replicate,if_pos hj']
  rfl
 exact hB.string (cap:=12) (n:=12) rfl
def hfl (s:ByteArray):ByteArray:=⟨(hflow s).toArray⟩
theorem hfl_size (s:ByteArray):(hfl s).size=240:=by unfold hfl;rw[ba_sz,hflow_len]
set_option maxHeartbeats 1000000 in
theorem rflow_any (s:ByteArray) (w:World) :
  Calls Tryz.prog 40 #[kv s] w fun e w'=>e = .returned (.string (hfl s))∧Below w.heap.size w w':=by
 have ST:Hid (∀w,Calls Tryz.prog 75 #[.string (hdk s lFlow 32),.string (zba 12),.int .i64 0,.int .i64 240] w fun e w'=>e = .returned (.string (hfl s))∧Below w.heap.size w w'):=fun w=>by
  have h:=rStream_any (hdk s lFlow 32) (zba 12) 0 240 (hdk_size _ _ _) (zba_size _) (by decide) w
  have e:(⟨(strm (hdk s lFlow 32).data.toList (zba 12).data.toList 0 240).toArray⟩:ByteArray)=hfl s:=rfl
  rw[e] at h
  exact h
 unfold kv
 generalize hfl s=F at *
 generalize hdk s lFlow 32=k0 at *
 generalize hdk s lMac 32=k1 at *
 generalize hdk s lBody 32=k2 at *
 generalize bld s=k3 at *
 generalize hdk s lTag 16=k4 at *
 have MK:=make12
 go_enter Tryz.func40, Tryz.ntmps40
 go_wp2_with fail
 obtain⟨A,hA⟩:∃A,w.alloc (.cells #[.string k0,.string k1,.string k2,.string k3,.string k4] 53)=A:=⟨_,rfl⟩
 have I:Hid (Five A w.heap.size k0 k1 k2 k3 k4∧Below w.heap.size w A):=by
  rw[←hA]
  exact⟨Five.new _ _ _ _ _ _ _,(Below.refl _ _).alloc (Nat.le_refl _) _⟩
 have c0:=I.out.1.2.1
 have cl:=I.out.1.lt
 have c0':(A.alloc (.cells (Array.replicate 12 (.int .u8 0)) 5)).cell? ⟨w.heap.size,0,none⟩=some (.string k0):=cell_later ((Below.refl _ _).alloc (Nat.le_refl _) _) c0
 have M2:(convert 43 9 (.slice (some ⟨A.heap.size,0,none⟩) 12 12)).run Tryz.prog ((A.alloc (.cells (Array.replicate 12 (.int .u8 0)) 5)).drew) = .ok (.string (zba 12)) ((A.alloc (.cells (Array.replicate 12 (.int .u8 0)) 5)).drew):=made12 A.drew _ rfl
 rw[hA]
 clear hA
 generalize zba 12=Z at *
 go_region_with (first|(go_at_call 75;refine Calls.mono (ST.out _) ?_;rintro e w2 ⟨rfl,hb2⟩;have B2:Hid (Below w.heap.size w w2):=chain (I.out.2.alloc I.out.2.size _).drew hb2))
 all_goals
  go_wp2
  go_ret
  exact⟨rfl,B2.out⟩
set_option maxHeartbeats 1000000 in
theorem rmac_any (s l:ByteArray) (hl:l.size+64≤140737488355328) (w:World) :
  Calls Tryz.prog 42 #[kv s,.string l] w fun e w'=>e = .returned (.string (hmb s l))∧Below w.heap.size w w':=by
 obtain⟨X,hX⟩:∃X:ByteArray,⟨(hmac (hdk s lMac 32).data.toList l.data.toList).toArray⟩=X:=⟨_,rfl⟩
 have zX:X.size=32:=by rw[←hX,ba_sz,hmac_len]
 have eX:Hid (hmb s l=X.extract 0 16):=by
  show _=_
  have hd:(hdk s lMac 32).data.toList=drv s.data.toList lMac 32:=by unfold hdk;simp
  have:(X.extract 0 16).data.toList=hmacf s l.data.toList:=by
   rw[←hX,ba_cut,List.drop_zero,hd]
   unfold hmacf
   with_reducible rfl
  unfold hmb
  exact (ba_of this).symm
 have TG:Hid (∀(w:World),Calls Tryz.prog 76 #[.string (hdk s lMac 32),.string l] w fun e w'=>e = .returned (.string X)∧Below w.heap.size w w'):=fun w=>by
  rw[←hX];exact rTag_any (hdk s lMac 32) l (by show _≤_;rw[hdk_size];decide) hl w
 rw[eX.out]
 unfold kv
 generalize hdk s lFlow 32=k1 at *
 generalize hdk s lMac 32=k2 at *
 generalize hdk s lBody 32=k3 at *
 generalize bld s=k4 at *
 generalize hdk s lTag 16=k5 at *
 have zXi:(X.size:Int)=32:=by omega
 clear hl hX eX
 go_enter Tryz.func42, Tryz.ntmps42
 go_wp2_with fail
 refine Calls.mono (TG.out _) ?_
 rintro e w1 ⟨rfl,hb1⟩
 have B1:Hid (Below w.heap.size w w1):=chain ((Below.refl _ _).alloc (Nat.le_refl _) _) hb1
 clear hb1 TG
 go_wp2
 go_ret
 exact⟨rfl,B1.out⟩
end Go.Proofs.YtgnkkjknngblbaaGreatDoor
namespace Go.Proofs.YtgnkkjknngblbaaGreatDoor
open Go.RowKit Go.Proofs.Fd Go.Proofs.Hs Go.Proofs.Cc Go.Proofs.Hd Go.Proofs.Rt
set_option maxRecDepth 20000
theorem Six.other {w:World} {g b o:Nat} {v:Value} {k0 k1 k2 k3 k4 k5:ByteArray} (h:Six w g k0 k1 k2 k3 k4 k5) (hne:b≠g):Six (w.setCell ⟨b,o,none⟩ v) g k0 k1 k2 k3 k4 k5:=by
 obtain⟨f,h0,h1,h2,h3,h4,h5⟩:=h
 have e:∀j,(w.setCell ⟨b,o,none⟩ v).cell? ⟨g,j,none⟩=w.cell? ⟨g,j,none⟩:=fun j=>by simp[go_sem]
 have e2:∀j,(w.setCell ⟨b,o,none⟩ v).frozen? ⟨g,j,none⟩=w.frozen? ⟨g,j,none⟩:=fun j=>by simp[go_sem]
 exact⟨fun j=>by rw[e2,f],by rw[e,h0],by rw[e,h1],by rw[e,h2],by rw[e,h3],by rw[e,h4],by rw[e,h5]⟩
theorem res_hk (tmps:Array Value) (w:World) (b:Nat) (x:Array Value) (h0:tmps.getD 2 undef = .pointer (some ⟨b,0,none⟩))
  (l1:(loadVar 70 ⟨b,0,none⟩).run Tryz.prog w = .ok (.agg x) w) :
  (results Tryz.f49 tmps).run Tryz.prog w = .ok (.agg x) w:=by
 unfold results
 rw[Tryz.results49]
 have h0':tmps[2]?.getD undef = .pointer (some ⟨b,0,none⟩):=by simpa using h0
 simp[h0',l1,asAddr]
set_option maxHeartbeats 1000000 in
theorem keysOf_any (s:ByteArray) (hs:Hid (s.size+64≤140737488355328)) (w:World) (hK:Hid (Kh w)) :
  Calls Tryz.prog 49 #[.string s] w fun e w'=>e = .returned (hk6 s)∧Below w.heap.size w w':=by
 have D1:Hid (∀w,Kh w→Calls Tryz.prog 78 #[.agg #[.string s],.string ⟨#[102,108,111,119]⟩,.int .i64 32] w fun e w'=>e = .returned (.string (hdk s lFlow 32))∧Below w.heap.size w w'):=fun w h=>hderived_any s lFlow 32 (by decide) (by decide) hs w h
 have D2:Hid (∀w,Kh w→Calls Tryz.prog 78 #[.agg #[.string s],.string ⟨#[109,97,99]⟩,.int .i64 32] w fun e w'=>e = .returned (.string (hdk s lMac 32))∧Below w.heap.size w w'):=fun w h=>hderived_any s lMac 32 (by decide) (by decide) hs w h
 have D3:Hid (∀w,Kh w→Calls Tryz.prog 78 #[.agg #[.string s],.string ⟨#[98,111,100,121]⟩,.int .i64 32] w fun e w'=>e = .returned (.string (hdk s lBody 32))∧Below w.heap.size w w'):=fun w h=>hderived_any s lBody 32 (by decide) (by decide) hs w h
 have D4:Hid (∀w,Kh w→Calls Tryz.prog 78 #[.agg #[.string s],.string ⟨#[98,108,105,110,100]⟩,.int .i64 32] w fun e w'=>e = .returned (.string (bld s))∧Below w.heap.size w w'):=fun w h=>hderived_any s lBlind 32 (by decide) (by decide) hs w h
 have D5:Hid (∀w,Kh w→Calls Tryz.prog 78 #[.agg #[.string s],.string ⟨#[116,97,103]⟩,.int .i64 16] w fun e w'=>e = .returned (.string (hdk s lTag 16))∧Below w.heap.size w w'):=fun w h=>hderived_any s lTag 16 (by decide) (by decide) hs w h
 unfold hk6
 generalize hdk s lFlow 32=k1 at *
 generalize hdk s lMac 32=k2 at *
 generalize hdk s lBody 32=k3 at *
 generalize bld s=k4 at *
 generalize hdk s lTag 16=k5 at *
 clear hs
 have h0:w.heap.size≠w.heap.size+1:=by omega
 go_enter Tryz.func49, Tryz.ntmps49
 go_wp2_with fail
 obtain⟨W0,hW0⟩:∃W,(w.alloc (.cells #[.string ⟨#[]⟩,.string ⟨#[]⟩,.string ⟨#[]⟩,.string ⟨#[]⟩,.string ⟨#[]⟩,.string ⟨#[]⟩] 70)).alloc (.cells #[.string s,.string ⟨#[]⟩,.string ⟨#[]⟩,.string ⟨#[]⟩,.string ⟨#[]⟩,.string ⟨#[]⟩] 70)=W:=⟨_,rfl⟩
 have S0:Hid (Six W0 (w.heap.size+1) s ⟨#[]⟩ ⟨#[]⟩ ⟨#[]⟩ ⟨#[]⟩ ⟨#[]⟩∧Six W0 w.heap.size ⟨#[]⟩ ⟨#[]⟩ ⟨#[]⟩ ⟨#[]⟩ ⟨#[]⟩ ⟨#[]⟩∧Below w.heap.size w W0):=by
  rw[←hW0]
  refine⟨?_,(Six.new _ _ _ _ _ _ _ _).later ((Below.refl _ _).alloc (Nat.le_refl _) _),((Below.refl _ _).alloc (Nat.le_refl _) _).alloc (by simp[go_sem]) _⟩
  have:=Six.new (w.alloc (.cells #[.string ⟨#[]⟩,.string ⟨#[]⟩,.string ⟨#[]⟩,.string ⟨#[]⟩,.string ⟨#[]⟩,.string ⟨#[]⟩] 70)) 70 s ⟨#[]⟩ ⟨#[]⟩ ⟨#[]⟩ ⟨#[]⟩ ⟨#[]⟩
  simpa[go_sem] using this
 rw[hW0]
 clear hW0
 refine Calls.mono (D1.out _ (hK.out.later S0.out.2.2)) ?_
 rintro e v1 ⟨rfl,hb1⟩
 have Q1:Hid (Six v1 (w.heap.size+1) s ⟨#[]⟩ ⟨#[]⟩ ⟨#[]⟩ ⟨#[]⟩ ⟨#[]⟩∧Six v1 w.heap.size ⟨#[]⟩ ⟨#[]⟩ ⟨#[]⟩ ⟨#[]⟩ ⟨#[]⟩ ⟨#[]⟩∧Below w.heap.size w v1):=⟨S0.out.1.later hb1,S0.out.2.1.later hb1,chain S0.out.2.2 hb1⟩
 clear hb1 S0 D1
 obtain⟨fz,c0,c1,c2,c3,c4,c5⟩:=Q1.out.1
 have f1:=fz 1
 go_wp2_with fail
 obtain⟨W1,hW1⟩:∃W,v1.setCell ⟨w.heap.size+1,1,none⟩ (.string k1)=W:=⟨_,rfl⟩
 have S1:Hid (Six W1 (w.heap.size+1) s k1 ⟨#[]⟩ ⟨#[]⟩ ⟨#[]⟩ ⟨#[]⟩∧Six W1 w.heap.size ⟨#[]⟩ ⟨#[]⟩ ⟨#[]⟩ ⟨#[]⟩ ⟨#[]⟩ ⟨#[]⟩∧Below w.heap.size w W1):=by
  rw[←hW1]
  exact⟨Q1.out.1.set1 k1,Q1.out.2.1.other (Ne.symm h0),Q1.out.2.2.setCell (p:=⟨w.heap.size+1,1,none⟩) (by simp) _⟩
 rw[hW1]
 clear hW1 Q1 fz c0 c1 c2 c3 c4 c5 f1
 refine Calls.mono (D2.out _ (hK.out.later S1.out.2.2)) ?_
 rintro e v2 ⟨rfl,hb2⟩
 have Q2:Hid (Six v2 (w.heap.size+1) s k1 ⟨#[]⟩ ⟨#[]⟩ ⟨#[]⟩ ⟨#[]⟩∧Six v2 w.heap.size ⟨#[]⟩ ⟨#[]⟩ ⟨#[]⟩ ⟨#[]⟩ ⟨#[]⟩ ⟨#[]⟩∧Below w.heap.size w v2):=⟨S1.out.1.later hb2,S1.out.2.1.later hb2,chain S1.out.2.2 hb2⟩
 clear hb2 S1 D2
 obtain⟨fz,c0,c1,c2,c3,c4,c5⟩:=Q2.out.1
 have f2:=fz 2
 go_wp2_with fail
 obtain⟨W2,hW2⟩:∃W,v2.setCell ⟨w.heap.size+1,2,none⟩ (.string k2)=W:=⟨_,rfl⟩
 have S2:Hid (Six W2 (w.heap.size+1) s k1 k2 ⟨#[]⟩ ⟨#[]⟩ ⟨#[]⟩∧Six W2 w.heap.size ⟨#[]⟩ ⟨#[]⟩ ⟨#[]⟩ ⟨#[]⟩ ⟨#[]⟩ ⟨#[]⟩∧Below w.heap.size w W2):=by
  rw[←hW2]
  exact⟨Q2.out.1.set2 k2,Q2.out.2.1.other (Ne.symm h0),Q2.out.2.2.setCell (p:=⟨w.heap.size+1,2,none⟩) (by simp) _⟩
 rw[hW2]
 clear hW2 Q2 fz c0 c1 c2 c3 c4 c5 f2
 refine Calls.mono (D3.out _ (hK.out.later S2.out.2.2)) ?_
 rintro e v3 ⟨rfl,hb3⟩
 have Q3:Hid (Six v3 (w.heap.size+1) s k1 k2 ⟨#[]⟩ ⟨#[]⟩ ⟨#[]⟩∧Six v3 w.heap.size ⟨#[]⟩ ⟨#[]⟩ ⟨#[]⟩ ⟨#[]⟩ ⟨#[]⟩ ⟨#[]⟩∧Below w.heap.size w v3):=⟨S2.out.1.later hb3,S2.out.2.1.later hb3,chain S2.out.2.2 hb3⟩
 clear hb3 S2 D3
 obtain⟨fz,c0,c1,c2,c3,c4,c5⟩:=Q3.out.1
 have f3:=fz 3
 go_wp2_with fail
 obtain⟨W3,hW3⟩:∃W,v3.setCell ⟨w.heap.size+1,3,none⟩ (.string k3)=W:=⟨_,rfl⟩
 have S3:Hid (Six W3 (w.heap.size+1) s k1 k2 k3 ⟨#[]⟩ ⟨#[]⟩∧Six W3 w.heap.size ⟨#[]⟩ ⟨#[]⟩ ⟨#[]⟩ ⟨#[]⟩ ⟨#[]⟩ ⟨#[]⟩∧Below w.heap.size w W3):=by
  rw[←hW3]
  exact⟨Q3.out.1.set3 k3,Q3.out.2.1.other (Ne.symm h0),Q3.out.2.2.setCell (p:=⟨w.heap.size+1,3,none⟩) (by simp) _⟩
 rw[hW3]
 clear hW3 Q3 fz c0 c1 c2 c3 c4 c5 f3
 refine Calls.mono (D4.out _ (hK.out.later S3.out.2.2)) ?_
 rintro e v4 ⟨rfl,hb4⟩
 have Q4:Hid (Six v4 (w.heap.size+1) s k1 k2 k3 ⟨#[]⟩ ⟨#[]⟩∧Six v4 w.heap.size ⟨#[]⟩ ⟨#[]⟩ ⟨#[]⟩ ⟨#[]⟩ ⟨#[]⟩ ⟨#[]⟩∧Below w.heap.size w v4):=⟨S3.out.1.later hb4,S3.out.2.1.later hb4,chain S3.out.2.2 hb4⟩
 clear hb4 S3 D4
 obtain⟨fz,c0,c1,c2,c3,c4,c5⟩:=Q4.out.1
 have f4:=fz 4
 go_wp2_with fail
 obtain⟨W4,hW4⟩:∃W,v4.setCell ⟨w.heap.size+1,4,none⟩ (.string k4)=W:=⟨_,rfl⟩
 have S4:Hid (Six W4 (w.heap.size+1) s k1 k2 k3 k4 ⟨#[]⟩∧Six W4 w.heap.size ⟨#[]⟩ ⟨#[]⟩ ⟨#[]⟩ ⟨#[]⟩ ⟨#[]⟩ ⟨#[]⟩∧Below w.heap.size w W4):=by
  rw[←hW4]
  exact⟨Q4.out.1.set4 k4,Q4.out.2.1.other (Ne.symm h0),Q4.out.2.2.setCell (p:=⟨w.heap.size+1,4,none⟩) (by simp) _⟩
 rw[hW4]
 clear hW4 Q4 fz c0 c1 c2 c3 c4 c5 f4
 refine Calls.mono (D5.out _ (hK.out.later S4.out.2.2)) ?_
 rintro e v5 ⟨rfl,hb5⟩
 have Q5:Hid (Six v5 (w.heap.size+1) s k1 k2 k3 k4 ⟨#[]⟩∧Six v5 w.heap.size ⟨#[]⟩ ⟨#[]⟩ ⟨#[]⟩ ⟨#[]⟩ ⟨#[]⟩ ⟨#[]⟩∧Below w.heap.size w v5):=⟨S4.out.1.later hb5,S4.out.2.1.later hb5,chain S4.out.2.2 hb5⟩
 clear hb5 S4 D5
 obtain⟨fz,c0,c1,c2,c3,c4,c5⟩:=Q5.out.1
 have f5:=fz 5
 obtain⟨gz,d0,d1,d2,d3,d4,d5⟩:=Q5.out.2.1
 have e0:=gz 0
 have e1:=gz 1
 have e2:=gz 2
 have e3:=gz 3
 have e4:=gz 4
 have e5:=gz 5
 have FF:Hid (_∧_):=And.intro (Six.whole (Six.other (o:=5) (v := .string k5) Q5.out.2.1 (Ne.symm h0)) s k1 k2 k3 k4 k5) (below_six (Q5.out.2.2.setCell (p:=⟨w.heap.size+1,5,none⟩) (by simp) (.string k5)) (Nat.le_refl w.heap.size) (.string s) (.string k1) (.string k2) (.string k3) (.string k4) (.string k5))
 clear fz gz Q5
 go_wp2
 refine bodyPost_ret (v := .agg #[.string s,.string k1,.string k2,.string k3,.string k4,.string k5]) ?_ rfl ⟨rfl,FF.out.2⟩
 exact res_hk _ _ w.heap.size _ (by kernel_rfl) (run_loadVar_mid _ w.heap.size 0 70 [.string s,.string k1,.string k2,.string k3,.string k4,.string k5] _ (Six.range FF.out.1) Tryz.underlying70 rfl (by kernel_rfl))
end Go.Proofs.YtgnkkjknngblbaaGreatDoor
namespace Go.Proofs.YtgnkkjknngblbaaGreatDoor
open Go.RowKit Go.Proofs.Fd Go.Proofs.Hs Go.Proofs.Cc Go.Proofs.Hd Go.Proofs.Rt
set_option maxRecDepth 20000
theorem res_peel (tmps:Array Value) (w:World) (b c:Nat) (k n u d:Int) (id s k0 k1 k2 k3 k4:ByteArray) (e:Int) (h4:tmps.getD 4 undef = .pointer (some ⟨b,0,none⟩)) (h5:tmps.getD 5 undef = .string s) (h6:tmps.getD 6 undef = .pointer (some ⟨c,0,none⟩)) (h7:tmps.getD 7 undef = .int .i64 e) (l:HopAt w b ⟨k,n,u,d,id⟩) (l2:Five w c k0 k1 k2 k3 k4) :
  (results Tryz.f21 tmps).run Tryz.prog w = .ok (.tuple #[.agg #[.int .i64 k,.int .i64 n,.int .i64 u,.int .i64 d,.string id],.string s,.agg #[.string k0,.string k1,.string k2,.string k3,.string k4],.int .i64 e]) w:=by
 have l1:=run_loadVar_mid (P:=Tryz.prog) w b 0 34 [.int .i64 k,.int .i64 n,.int .i64 u,.int .i64 d,.string id] _ l.range Tryz.underlying34 rfl (by kernel_rfl)
 have l3:=run_loadVar_mid (P:=Tryz.prog) w c 0 53 [.string k0,.string k1,.string k2,.string k3,.string k4] _ l2.range Tryz.underlying53 rfl (by kernel_rfl)
 unfold results
 rw[Tryz.results21]
 have h4':tmps[4]?.getD undef = .pointer (some ⟨b,0,none⟩):=by simpa using h4
 have h5':tmps[5]?.getD undef = .string s:=by simpa using h5
 have h6':tmps[6]?.getD undef = .pointer (some ⟨c,0,none⟩):=by simpa using h6
 have h7':tmps[7]?.getD undef = .int .i64 e:=by simpa using h7
 simp[h4',h5',h6',h7',l1,l3,asAddr]
def Two (w W:World) (x:Hp) (k0 k1 k2 k3 k4:ByteArray):Prop:=HopAt W w.heap.size x∧Five W (w.heap.size+1) k0 k1 k2 k3 k4∧Below w.heap.size w W
theorem Two.later {w W W':World} {x:Hp} {k0 k1 k2 k3 k4:ByteArray} (h:Two w W x k0 k1 k2 k3 k4) (hb:Below W.heap.size W W'):Two w W' x k0 k1 k2 k3 k4:=⟨h.1.later hb,h.2.1.later hb,chain h.2.2 hb⟩
theorem Two.new (w:World):Two w ((w.alloc (.cells #[.int .i64 0,.int .i64 0,.int .i64 0,.int .i64 0,.string ⟨#[]⟩] 34)).alloc (.cells #[.string ⟨#[]⟩,.string ⟨#[]⟩,.string ⟨#[]⟩,.string ⟨#[]⟩,.string ⟨#[]⟩] 53)) zh ⟨#[]⟩ ⟨#[]⟩ ⟨#[]⟩ ⟨#[]⟩ ⟨#[]⟩:=by
 refine⟨(HopAt.fresh _ _ _ _ _ _ _).later ((Below.refl _ _).alloc (Nat.le_refl _) _),?_,((Below.refl _ _).alloc (Nat.le_refl _) _).alloc (by simp[go_sem]) _⟩
 have:=Five.new (w.alloc (.cells #[.int .i64 0,.int .i64 0,.int .i64 0,.int .i64 0,.string ⟨#[]⟩] 34)) 53 ⟨#[]⟩ ⟨#[]⟩ ⟨#[]⟩ ⟨#[]⟩ ⟨#[]⟩
 simpa[go_sem] using this
theorem Five.other {w:World} {g b o:Nat} {v:Value} {k0 k1 k2 k3 k4:ByteArray} (h:Five w g k0 k1 k2 k3 k4) (hne:b≠g):Five (w.setCell ⟨b,o,none⟩ v) g k0 k1 k2 k3 k4:=by
 obtain⟨f,h0,h1,h2,h3,h4⟩:=h
 have e:∀j,(w.setCell ⟨b,o,none⟩ v).cell? ⟨g,j,none⟩=w.cell? ⟨g,j,none⟩:=fun j=>by simp[go_sem]
 have e2:∀j,(w.setCell ⟨b,o,none⟩ v).frozen? ⟨g,j,none⟩=w.frozen? ⟨g,j,none⟩:=fun j=>by simp[go_sem]
 exact⟨fun j=>by rw[e2,f],by rw[e,h0],by rw[e,h1],by rw[e,h2],by rw[e,h3],by rw[e,h4]⟩
def putH (w:World) (g:Nat) (k n u d:Int) (id:ByteArray):World:=((((w.setCell ⟨g,0,none⟩ (.int .i64 k)).setCell ⟨g,1,none⟩ (.int .i64 n)).setCell ⟨g,2,none⟩ (.int .i64 u)).setCell ⟨g,3,none⟩ (.int .i64 d)).setCell ⟨g,4,none⟩ (.string id)
def putK (w:World) (g:Nat) (y0 y1 y2 y3 y4:ByteArray):World:=((((w.setCell ⟨g,0,none⟩ (.string y0)).setCell ⟨g,1,none⟩ (.string y1)).setCell ⟨g,2,none⟩ (.string y2)).setCell ⟨g,3,none⟩ (.string y3)).setCell ⟨g,4,none⟩ (.string y4)
theorem Two.putH {w W:World} {x:Hp} {k0 k1 k2 k3 k4:ByteArray} (h:Two w W x k0 k1 k2 k3 k4) (k n u d:Int) (id:ByteArray):Two w (putH W w.heap.size k n u d id) ⟨k,n,u,d,id⟩ k0 k1 k2 k3 k4:=by
 have hne:w.heap.size≠w.heap.size+1:=by omega
 have hb:w.heap.size≤w.heap.size:=Nat.le_refl _
 unfold YtgnkkjknngblbaaGreatDoor.putH
 refine⟨h.1.whole k n u d id,((((h.2.1.other hne).other hne).other hne).other hne).other hne,((((h.2.2.setCell (p:=⟨w.heap.size,0,none⟩) hb _).setCell (p:=⟨w.heap.size,1,none⟩) hb _).setCell (p:=⟨w.heap.size,2,none⟩) hb _).setCell (p:=⟨w.heap.size,3,none⟩) hb _).setCell (p:=⟨w.heap.size,4,none⟩) hb _⟩
theorem Two.putK {w W:World} {x:Hp} {k0 k1 k2 k3 k4:ByteArray} (h:Two w W x k0 k1 k2 k3 k4) (y0 y1 y2 y3 y4:ByteArray):Two w (putK W (w.heap.size+1) y0 y1 y2 y3 y4) x y0 y1 y2 y3 y4:=by
 have hne:w.heap.size+1≠w.heap.size:=by omega
 have hb:w.heap.size≤w.heap.size+1:=by omega
 unfold YtgnkkjknngblbaaGreatDoor.putK
 refine⟨((((h.1.other (a:=⟨w.heap.size+1,0,none⟩) hne _).other (a:=⟨w.heap.size+1,1,none⟩) hne _).other (a:=⟨w.heap.size+1,2,none⟩) hne _).other (a:=⟨w.heap.size+1,3,none⟩) hne _).other (a:=⟨w.heap.size+1,4,none⟩) hne _,h.2.1.whole y0 y1 y2 y3 y4,below_five h.2.2 hb _ _ _ _ _⟩
theorem Two.cells {w W:World} {k n u d:Int} {id k0 k1 k2 k3 k4:ByteArray} (h:Two w W ⟨k,n,u,d,id⟩ k0 k1 k2 k3 k4) :
  (W.cell? ⟨w.heap.size,0,none⟩=some (.int .i64 k)∧W.cell? ⟨w.heap.size,1,none⟩=some (.int .i64 n)∧W.cell? ⟨w.heap.size,2,none⟩=some (.int .i64 u)∧W.cell? ⟨w.heap.size,3,none⟩=some (.int .i64 d)∧W.cell? ⟨w.heap.size,4,none⟩=some (.string id))
  ∧ (W.cell? ⟨w.heap.size+1,0,none⟩=some (.string k0)∧W.cell? ⟨w.heap.size+1,1,none⟩=some (.string k1)∧W.cell? ⟨w.heap.size+1,2,none⟩=some (.string k2)∧W.cell? ⟨w.heap.size+1,3,none⟩=some (.string k3)∧W.cell? ⟨w.heap.size+1,4,none⟩=some (.string k4))
  ∧ (W.frozen? ⟨w.heap.size,0,none⟩=false∧W.frozen? ⟨w.heap.size,1,none⟩=false∧W.frozen? ⟨w.heap.size,2,none⟩=false∧W.frozen? ⟨w.heap.size,3,none⟩=false∧W.frozen? ⟨w.heap.size,4,none⟩=false)
  ∧ (W.frozen? ⟨w.heap.size+1,0,none⟩=false∧W.frozen? ⟨w.heap.size+1,1,none⟩=false∧W.frozen? ⟨w.heap.size+1,2,none⟩=false∧W.frozen? ⟨w.heap.size+1,3,none⟩=false∧W.frozen? ⟨w.heap.size+1,4,none⟩=false) :=
 ⟨h.1.cells,h.2.1.2,⟨h.1.1 0,h.1.1 1,h.1.1 2,h.1.1 3,h.1.1 4⟩,⟨h.2.1.1 0,h.2.1.1 1,h.2.1.1 2,h.2.1.1 3,h.2.1.1 4⟩⟩
set_option maxHeartbeats 1000000 in
theorem peel_form (p h:ByteArray) (hf:¬(p.size=32∧h.size=248)) (w:World) :
  Calls Tryz.prog 21 #[.string p,.string h] w fun e w'=>e = .returned (.tuple #[hv zh,.string ⟨#[]⟩,kz,.int .i64 3])∧Below w.heap.size w w':=by
 obtain⟨d,hd⟩:∃d:Bool,decide (p.size=32)=d:=⟨_,rfl⟩
 have W1:Hid (∀(B:Nat) (w:World),w.cell? ⟨B,0,none⟩=some (.string p)→Calls Tryz.prog 47 #[.slice (some ⟨B,0,none⟩) 1 1] w fun e w'=>e = .returned (.bool d)∧Below w.heap.size w w'):=fun B w h=>by
  rw[←hd];exact hwhole1_any p B w h
 have HD:Hid (d=true→((h.size:Int) != 248)=true):=fun q=>by
  rw[←hd] at q
  have:=of_decide_eq_true q
  simp
  omega
 clear hd hf
 unfold hv zh kz
 simp only
 go_enter Tryz.func21, Tryz.ntmps21
 go_wp2_with fail
 refine Calls.mono (W1.out _ _ (by simp[go_sem])) ?_
 rintro e W' ⟨rfl,hb1⟩
 have J1:Hid (Two w W' ⟨0,0,0,0,⟨#[]⟩⟩ ⟨#[]⟩ ⟨#[]⟩ ⟨#[]⟩ ⟨#[]⟩ ⟨#[]⟩):=((Two.new w).later ((Below.refl _ _).alloc (Nat.le_refl _) _)).later hb1
 clear hb1 W1
 cases d with
 | false =>
  obtain⟨⟨a0,a1,a2,a3,a4⟩,⟨b0,b1,b2,b3,b4⟩,⟨fa0,fa1,fa2,fa3,fa4⟩,⟨fb0,fb1,fb2,fb3,fb4⟩⟩:=Two.cells J1.out
  have FF:Hid (Two w (putK (putH W' w.heap.size 0 0 0 0 ⟨#[]⟩) (w.heap.size+1) ⟨#[]⟩ ⟨#[]⟩ ⟨#[]⟩ ⟨#[]⟩ ⟨#[]⟩) ⟨0,0,0,0,⟨#[]⟩⟩ ⟨#[]⟩ ⟨#[]⟩ ⟨#[]⟩ ⟨#[]⟩ ⟨#[]⟩):=(J1.out.putH 0 0 0 0 ⟨#[]⟩).putK ⟨#[]⟩ ⟨#[]⟩ ⟨#[]⟩ ⟨#[]⟩ ⟨#[]⟩
  unfold YtgnkkjknngblbaaGreatDoor.putH YtgnkkjknngblbaaGreatDoor.putK at FF
  go_wp2
  refine bodyPost_ret (v := .tuple #[.agg #[.int .i64 0,.int .i64 0,.int .i64 0,.int .i64 0,.string ⟨#[]⟩],.string ⟨#[]⟩,.agg #[.string ⟨#[]⟩,.string ⟨#[]⟩,.string ⟨#[]⟩,.string ⟨#[]⟩,.string ⟨#[]⟩],.int .i64 3]) ?_ rfl ⟨rfl,FF.out.2.2⟩
  exact res_peel _ _ w.heap.size (w.heap.size+1) 0 0 0 0 ⟨#[]⟩ ⟨#[]⟩ ⟨#[]⟩ ⟨#[]⟩ ⟨#[]⟩ ⟨#[]⟩ ⟨#[]⟩ 3 (by kernel_rfl) (by kernel_rfl) (by kernel_rfl) (by kernel_rfl) FF.out.1 FF.out.2.1
 | true =>
  have g1:=HD.out rfl
  obtain⟨⟨a0,a1,a2,a3,a4⟩,⟨b0,b1,b2,b3,b4⟩,⟨fa0,fa1,fa2,fa3,fa4⟩,⟨fb0,fb1,fb2,fb3,fb4⟩⟩:=Two.cells J1.out
  have FF:Hid (Two w (putK (putH W' w.heap.size 0 0 0 0 ⟨#[]⟩) (w.heap.size+1) ⟨#[]⟩ ⟨#[]⟩ ⟨#[]⟩ ⟨#[]⟩ ⟨#[]⟩) ⟨0,0,0,0,⟨#[]⟩⟩ ⟨#[]⟩ ⟨#[]⟩ ⟨#[]⟩ ⟨#[]⟩ ⟨#[]⟩):=(J1.out.putH 0 0 0 0 ⟨#[]⟩).putK ⟨#[]⟩ ⟨#[]⟩ ⟨#[]⟩ ⟨#[]⟩ ⟨#[]⟩
  unfold YtgnkkjknngblbaaGreatDoor.putH YtgnkkjknngblbaaGreatDoor.putK at FF
  go_wp2
  refine bodyPost_ret (v := .tuple #[.agg #[.int .i64 0,.int .i64 0,.int .i64 0,.int .i64 0,.string ⟨#[]⟩],.string ⟨#[]⟩,.agg #[.string ⟨#[]⟩,.string ⟨#[]⟩,.string ⟨#[]⟩,.string ⟨#[]⟩,.string ⟨#[]⟩],.int .i64 3]) ?_ rfl ⟨rfl,FF.out.2.2⟩
  exact res_peel _ _ w.heap.size (w.heap.size+1) 0 0 0 0 ⟨#[]⟩ ⟨#[]⟩ ⟨#[]⟩ ⟨#[]⟩ ⟨#[]⟩ ⟨#[]⟩ ⟨#[]⟩ 3 (by kernel_rfl) (by kernel_rfl) (by kernel_rfl) (by kernel_rfl) FF.out.1 FF.out.2.1
end Go.Proofs.YtgnkkjknngblbaaGreatDoor
