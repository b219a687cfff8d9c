/- Parts: HP3,HR2,HP4,HR3,HP6,HR4. -/
import Derived.Test.YtgnkkjknngblbaaGreatDoorZmG37
import Derived.Test.YtgnkkjknngblbaaGreatDoorZmG20
import Derived.Laws.OwnMore
import Derived.Test.YtgnkkjknngblbaaGreatDoorZmG15
namespace Go.Proofs.YtgnkkjknngblbaaGreatDoor
open Go.RowKit Go.Proofs.Fd Go.Proofs.Hs Go.Proofs.Cc Go.Proofs.Hd Go.Proofs.Rt
set_option maxRecDepth 20000
def HksAt (w:World) (a:Option Addr) (ss:List ByteArray):Prop:=∀i,i < ss.length→∃b o,a=some ⟨b,o,none⟩
  ∧ w.cell? ⟨b,o+i*6,none⟩=some (.string (nth ss i))∧w.cell? ⟨b,o+i*6+1,none⟩=some (.string (hdk (nth ss i) lFlow 32))∧w.cell? ⟨b,o+i*6+2,none⟩=some (.string (hdk (nth ss i) lMac 32))∧w.cell? ⟨b,o+i*6+3,none⟩=some (.string (hdk (nth ss i) lBody 32))
  ∧ w.cell? ⟨b,o+i*6+4,none⟩=some (.string (bld (nth ss i)))∧w.cell? ⟨b,o+i*6+5,none⟩=some (.string (hdk (nth ss i) lTag 16))
theorem HksAt.later {w w':World} {a:Option Addr} {ss:List ByteArray} (h:HksAt w a ss) (hb:Below w.heap.size w w'):HksAt w' a ss:=fun i hi=>by
 obtain⟨b,o,ha,c0,c1,c2,c3,c4,c5⟩:=h i hi
 exact⟨b,o,ha,cell_later hb c0,cell_later hb c1,cell_later hb c2,cell_later hb c3,cell_later hb c4,cell_later hb c5⟩
theorem ba_app (a b:ByteArray):(a++b).data.toList=a.data.toList++b.data.toList:=by simp
theorem ba_add (a b:ByteArray):(a++b).size=a.size+b.size:=by simp
def fbs (ss:List ByteArray) (i:Nat):ByteArray:=⟨(fil (fun i=>hflow (nth ss i)) i).toArray⟩
theorem fbs_size (ss:List ByteArray) (i:Nat) (hi:i≤6):(fbs ss i).size=40*i:=by
 unfold fbs;rw[ba_sz,fil_len _ (fun _=>hflow_len _) i hi]
theorem fbs_zero (ss:List ByteArray):fbs ss 0=⟨#[]⟩:=rfl
theorem fbs_step (ss:List ByteArray) (i m:Nat) (hi:i≤4) (hm:m+40*(i+1)=240):(htn (nth ss i) (zba m++(fbs ss i++zba 40))).extract m 240=fbs ss (i+1):=by
 have hl:(fil (fun i=>hflow (nth ss i)) i).length=40*i:=fil_len _ (fun _=>hflow_len _) i (by omega)
 have e:((htn (nth ss i) (zba m++(fbs ss i++zba 40))).extract m 240).data.toList=fil (fun i=>hflow (nth ss i)) (i+1):=by
  unfold htn
  rw[ba_cut,xorl_dp,ba_app,zba_data,List.drop_append_of_le_length (by rw[List.length_replicate];exact Nat.le_refl _),List.drop_of_length_le (by rw[List.length_replicate];exact Nat.le_refl _),List.nil_append,ba_app,zba_data,fil_succ,show 240 - 40*(i+1)=m by omega]
  have eq:(fbs ss i).data.toList=fil (fun i=>hflow (nth ss i)) i:=rfl
  rw[eq]
  apply List.take_of_length_le
  rw[xorl_len _ _ (by rw[List.length_append,hl,List.length_replicate,List.length_drop,hflow_len];omega),List.length_append,hl,List.length_replicate]
  omega
 exact ba_of e
set_option maxHeartbeats 1000000 in
theorem filler_any (a:Option Addr) (ss:List ByteArray) (n cap:Nat) (hn:Hid (n≤ss.length)) (h4:n≤4) (w:World) (hc:Hid (HksAt w a ss)) :
  Calls Tryz.prog 68 #[.slice a n cap] w fun e w'=>e = .returned (.string (fbs ss n))∧Below w.heap.size w w':=by
 have Z40:Hid (∀w,Calls Tryz.prog 53 #[.int .i64 40] w fun e w'=>e = .returned (.string (zba 40))∧Below w.heap.size w w'):=fun w=>zeros_any 40 (by decide) (by decide) w
 go_enter Tryz.func68, Tryz.ntmps68
 go_wp2_with fail
 go_loopw [3,9] (fun fv iv wr=>∃k:Nat,k≤n∧iv = .int .i64 (k:Int)∧fv = .string (fbs ss k)∧Hid (Below w.heap.size w wr)) (fun _ iv _=>n - (intOf iv).toNat)
 case atStart=>exact⟨0,Nat.zero_le _,rfl,rfl,Below.refl _ _⟩
 case round =>
  obtain⟨k,hk,rfl,rfl,I⟩:=hrel
  by_cases hlt:k < n
  ·have g1:(k:Int) < (n:Int):=by omega
   obtain⟨b,o,rfl,c0,c1,c2,c3,c4,c5⟩:=HksAt.later hc.out I.out k (by have:=hn.out;omega)
   obtain⟨m,hm⟩:∃m,m+40*(k+1)=240:=⟨200 - 40*k,by omega⟩
   obtain⟨G,hG⟩:∃G:ByteArray,fbs ss k++zba 40=G:=⟨_,rfl⟩
   have zF:=fbs_size ss k (by omega)
   have zG:G.size=40*(k+1):=by rw[←hG,ba_add,zF,zba_size];omega
   obtain⟨H,hH⟩:∃H:ByteArray,zba m++G=H:=⟨_,rfl⟩
   have zH:H.size=240:=by rw[←hH,ba_add,zba_size,zG];omega
   obtain⟨Y,hY⟩:∃Y:ByteArray,htn (nth ss k) H=Y:=⟨_,rfl⟩
   have zY:Y.size=240:=by rw[←hY,htn_size _ _ (by omega),zH]
   have ST:Hid (Y.extract m 240=fbs ss (k+1)):=by
    rw[←hY,←hH,←hG];exact fbs_step ss k m (by omega) hm
   have A1:∀w,(Op.stringOp .add (fbs ss k) (zba 40)).run Tryz.prog w = .ok (.string G) w:=fun w=>by
    rw[←hG];exact run_string_add_sum _ _ _ (by rw[zF,zba_size];omega)
   have A2:∀w,(Op.stringOp .add (zba m) G).run Tryz.prog w = .ok (.string H) w:=fun w=>by
    rw[←hH];exact run_string_add_sum _ _ _ (by rw[zba_size,zG];omega)
   have ZM:Hid (∀w,Calls Tryz.prog 53 #[.int .i64 (m:Int)] w fun e w'=>e = .returned (.string (zba m))∧Below w.heap.size w w'):=fun w=>zeros_any m (by omega) (by omega) w
   have TU:Hid (∀w,Calls Tryz.prog 52 #[hk6 (nth ss k),.string H] w fun e w'=>e = .returned (.string Y)∧Below w.heap.size w w'):=fun w=>by
    rw[←hY];exact hturned_any _ _ (by omega) w
   unfold hk6 at TU
   have zM:=zba_size m
   have zMi:((zba m).size:Int)=(m:Int):=by omega
   have zYi:(Y.size:Int)=240:=by omega
   have s1:IntKind.i64.wrap (240 - (G.size:Int))=(m:Int):=by rw[IntKind.wrap_i64];omega
   have s2:wrap64 (240 - (G.size:Int))=(m:Int):=by unfold wrap64;omega
   have m240:(m:Int)≤240:=by omega
   clear hG hH hY zG zH zF
   generalize zba m=Zm at *
   generalize zba 40=Z at *
   obtain⟨F,hF⟩:∃F:ByteArray,fbs ss k=F:=⟨_,rfl⟩
   rw[hF] at A1 ⊢
   clear hF
   generalize nth ss k=s at *
   generalize hdk s lFlow 32=k1 at *
   generalize hdk s lMac 32=k2 at *
   generalize hdk s lBody 32=k3 at *
   generalize bld s=k4 at *
   generalize hdk s lTag 16=k5 at *
   go_wp2_with fail
   obtain⟨A,hA⟩:∃A,wr.alloc (.cells #[.string s,.string k1,.string k2,.string k3,.string k4,.string k5] 70)=A:=⟨_,rfl⟩
   have J:Hid (Six A wr.heap.size s k1 k2 k3 k4 k5∧Below w.heap.size w A):=by
    rw[←hA]
    exact⟨Six.new _ _ _ _ _ _ _ _,I.out.alloc I.out.size _⟩
   rw[hA]
   clear hA c0 c1 c2 c3 c4 c5 I
   generalize wr.heap.size=g at *
   refine Calls.mono (Z40.out _) ?_
   rintro e w1 ⟨rfl,hb1⟩
   have J1:Hid (Six w1 g s k1 k2 k3 k4 k5∧Below w.heap.size w w1):=⟨J.out.1.later hb1,chain J.out.2 hb1⟩
   clear hb1 J Z40
   go_wp2_with fail
   refine Calls.mono (ZM.out _) ?_
   rintro e w2 ⟨rfl,hb2⟩
   have J2:Hid (Six w2 g s k1 k2 k3 k4 k5∧Below w.heap.size w w2):=⟨J1.out.1.later hb2,chain J1.out.2 hb2⟩
   clear hb2 J1 ZM
   obtain⟨-,c0,c1,c2,c3,c4,c5⟩:=J2.out.1
   go_wp2_with fail
   refine Calls.mono (TU.out _) ?_
   rintro e w3 ⟨rfl,hb3⟩
   have B3:Hid (Below w.heap.size w w3):=chain J2.out.2 hb3
   clear hb3 J2 TU c0 c1 c2 c3 c4 c5
   go_wp2
   go_roundw
   case rel=>exact⟨k+1,by omega,by go_num,by rw[ST.out],B3.out⟩
   case measure=>simp[intOf];omega
  ·obtain rfl:k=n:=by omega
   have g1:¬(k:Int) < (k:Int):=by omega
   go_wp2
   go_ret
   exact⟨rfl,I.out⟩
end Go.Proofs.YtgnkkjknngblbaaGreatDoor
namespace Go.Proofs.YtgnkkjknngblbaaGreatDoor
open Go.RowKit Go.Proofs.Fd Go.Proofs.Hs Go.Proofs.Cc Go.Proofs.Hd Go.Proofs.Rt
set_option maxRecDepth 20000
def KyAt (w:World) (a:Option Addr) (ss:List ByteArray):Prop:=∀i,i < ss.length→∃b o,a=some ⟨b,o,none⟩
  ∧ w.cell? ⟨b,o+i*5,none⟩=some (.string (hdk (nth ss i) lFlow 32))∧w.cell? ⟨b,o+i*5+1,none⟩=some (.string (hdk (nth ss i) lMac 32))∧w.cell? ⟨b,o+i*5+2,none⟩=some (.string (hdk (nth ss i) lBody 32))
  ∧ w.cell? ⟨b,o+i*5+3,none⟩=some (.string (bld (nth ss i)))∧w.cell? ⟨b,o+i*5+4,none⟩=some (.string (hdk (nth ss i) lTag 16))
theorem KyAt.later {w w':World} {a:Option Addr} {ss:List ByteArray} (h:KyAt w a ss) (hb:Below w.heap.size w w'):KyAt w' a ss:=fun i hi=>by
 obtain⟨b,o,ha,c0,c1,c2,c3,c4⟩:=h i hi
 exact⟨b,o,ha,cell_later hb c0,cell_later hb c1,cell_later hb c2,cell_later hb c3,cell_later hb c4⟩
theorem fbs_with (ss:List ByteArray) (i m:Nat) (hi:i≤4) (hm:m+40*(i+1)=240):(⟨(xorl (fbs ss i++zba 40).data.toList ((hfl (nth ss i)).extract m 240).data.toList).toArray⟩:ByteArray)=fbs ss (i+1):=by
 unfold fbs hfl
 rw[fil_succ,ba_app,zba_data,ba_cut,show 240 - 40*(i+1)=m by omega,List.take_of_length_le (by rw[List.length_drop,hflow_len];omega)]
set_option maxHeartbeats 1000000 in
theorem rfiller_any (a:Option Addr) (ss:List ByteArray) (L cap:Nat) (hL:Hid (ss.length=L)) (h5:L≤5) (n:Nat) (hn:n≤L) (w:World) (hc:Hid (KyAt w a ss)) :
  Calls Tryz.prog 41 #[.slice a L cap,.int .i64 (n:Int)] w fun e w'=>e = .returned (.string (fbs ss n))∧Below w.heap.size w w':=by
 induction n generalizing w with
 | zero =>
  go_enter Tryz.func41, Tryz.ntmps41
  go_wp2
  go_ret
  exact⟨by rw[fbs_zero];rfl,Below.refl _ _⟩
 | succ k ih =>
  have IH:Hid (∀w',Below w.heap.size w w'→Calls Tryz.prog 41 #[.slice a L cap,.int .i64 (k:Int)] w' fun e w''=>e = .returned (.string (fbs ss k))∧Below w'.heap.size w' w''):=fun w' hb=>ih (by omega) w' (hc.out.later hb)
  have Z40:Hid (∀w,Calls Tryz.prog 37 #[.int .i64 40] w fun e w'=>e = .returned (.string (zba 40))∧Below w.heap.size w w'):=fun w=>rzeros_any 40 (by decide) w
  have FL:Hid (∀w,Calls Tryz.prog 40 #[kv (nth ss k)] w fun e w'=>e = .returned (.string (hfl (nth ss k)))∧Below w.heap.size w w'):=fun w=>rflow_any (nth ss k) w
  obtain⟨m,hm⟩:∃m,m+40*(k+1)=240:=⟨200 - 40*k,by omega⟩
  obtain⟨G,hG⟩:∃G:ByteArray,fbs ss k++zba 40=G:=⟨_,rfl⟩
  have zF:=fbs_size ss k (by omega)
  have zG:G.size=40*(k+1):=by rw[←hG,ba_add,zF,zba_size];omega
  have zH:=hfl_size (nth ss k)
  have WI:Hid (∀w,Calls Tryz.prog 39 #[.string G,.string ((hfl (nth ss k)).extract m 240)] w fun e w'=>e = .returned (.string (fbs ss (k+1)))∧Below w.heap.size w w'):=fun w=>by
   have h:=rWith_le G ((hfl (nth ss k)).extract m 240) (by rw[ByteArray.size_extract,zH,zG];omega) (by omega) w
   rw[←hG,fbs_with ss k m (by omega) hm] at h
   rw[←hG]
   exact h
  have A1:∀w,(Op.stringOp .add (fbs ss k) (zba 40)).run Tryz.prog w = .ok (.string G) w:=fun w=>by
   rw[←hG];exact run_string_add_sum _ _ _ (by rw[zF,zba_size];omega)
  have s1:IntKind.i64.wrap (240 - (G.size:Int))=(m:Int):=by rw[IntKind.wrap_i64];omega
  have s2:wrap64 (240 - (G.size:Int))=(m:Int):=by unfold wrap64;omega
  have s3:IntKind.i64.wrap ((k:Int)+1 - 1)=(k:Int):=by rw[IntKind.wrap_i64];omega
  have s4:wrap64 ((k:Int)+1 - 1)=(k:Int):=by unfold wrap64;omega
  have s5:((k:Int)+1 == 0)=false:=by rw[beq_eq_false_iff_ne];omega
  have g1:(k:Int) < (L:Int):=by omega
  have g2:(0:Int)≤(k:Int):=by omega
  have m240:(m:Int)≤240:=by omega
  have HC:Hid (∀w',Below w.heap.size w w'→KyAt w' a ss):=fun w' h=>hc.out.later h
  have HK:Hid (k < ss.length):=(show k < ss.length by rw[hL.out];omega)
  rw[show ((k+1:Nat):Int)=(k:Int)+1 by omega]
  unfold kv at FL
  generalize fbs ss (k+1)=R at *
  obtain⟨F,hF⟩:∃F:ByteArray,fbs ss k=F:=⟨_,rfl⟩
  rw[hF] at A1 IH
  obtain⟨H,hH⟩:∃H:ByteArray,hfl (nth ss k)=H:=⟨_,rfl⟩
  rw[hH] at FL WI zH
  generalize zba 40=Z at *
  have zHi:(H.size:Int)=240:=by omega
  clear hF hH hG zF zG ih hc
  go_enter Tryz.func41, Tryz.ntmps41
  go_wp2_with fail
  refine Calls.mono (IH.out _ (Below.refl _ _)) ?_
  rintro e w1 ⟨rfl,hb1⟩
  have B1:Hid (Below w.heap.size w w1):=hb1
  clear hb1 IH
  go_wp2_with fail
  refine Calls.mono (Z40.out _) ?_
  rintro e w2 ⟨rfl,hb2⟩
  have B2:Hid (Below w.heap.size w w2):=chain B1.out hb2
  clear hb2 Z40 B1
  obtain⟨b,o,rfl,c0,c1,c2,c3,c4⟩:=HC.out w2 B2.out k HK.out
  generalize nth ss k=s at *
  generalize hdk s lFlow 32=k0 at *
  generalize hdk s lMac 32=k1 at *
  generalize hdk s lBody 32=k2 at *
  generalize bld s=k3 at *
  generalize hdk s lTag 16=k4 at *
  go_wp2_with fail
  refine Calls.mono (FL.out _) ?_
  rintro e w3 ⟨rfl,hb3⟩
  have B3:Hid (Below w.heap.size w w3):=chain B2.out hb3
  clear hb3 FL B2 c0 c1 c2 c3 c4
  go_wp2_with fail
  refine Calls.mono (WI.out _) ?_
  rintro e w4 ⟨rfl,hb4⟩
  have B4:Hid (Below w.heap.size w w4):=chain B3.out hb4
  clear hb4 WI B3
  go_wp2
  go_ret
  exact⟨rfl,B4.out⟩
end Go.Proofs.YtgnkkjknngblbaaGreatDoor
namespace Go.Proofs.YtgnkkjknngblbaaGreatDoor
open Go.RowKit Go.Proofs.Fd Go.Proofs.Hs Go.Proofs.Cc Go.Proofs.Hd Go.Proofs.Rt
set_option maxRecDepth 20000
def kcell (s:ByteArray):List Value:=[.string s,.string (hdk s lFlow 32),.string (hdk s lMac 32),.string (hdk s lBody 32),.string (bld s),.string (hdk s lTag 16)]
def kcells (l:List ByteArray):List Value:=l.flatMap kcell
theorem kcells_cons (s:ByteArray) (l:List ByteArray):kcells (s::l) = .string s :: .string (hdk s lFlow 32) :: .string (hdk s lMac 32) :: .string (hdk s lBody 32) :: .string (bld s) :: .string (hdk s lTag 16)::kcells l:=by
 unfold kcells;rw[List.flatMap_cons];unfold kcell;rw[List.cons_append,List.cons_append,List.cons_append,List.cons_append,List.cons_append,List.cons_append,List.nil_append]
theorem kcells_snoc (l:List ByteArray) (s:ByteArray):kcells (l++[s])=kcells l++kcell s:=by
 unfold kcells;rw[List.flatMap_append,List.flatMap_cons,List.flatMap_nil,List.append_nil]
theorem kcells_len (l:List ByteArray):(kcells l).length=l.length*6:=by
 induction l with
 | nil=>rfl
 | cons h l ih=>rw[kcells_cons];simp only[List.length_cons,ih];omega
theorem kcells_at (l:List ByteArray) (i:Nat) (hi:i < l.length):(kcells l)[i*6]?=some (.string (nth l i))∧(kcells l)[i*6+1]?=some (.string (hdk (nth l i) lFlow 32))∧(kcells l)[i*6+2]?=some (.string (hdk (nth l i) lMac 32))∧(kcells l)[i*6+3]?=some (.string (hdk (nth l i) lBody 32))∧(kcells l)[i*6+4]?=some (.string (bld (nth l i)))∧(kcells l)[i*6+5]?=some (.string (hdk (nth l i) lTag 16)):=by
 induction l generalizing i with
 | nil=>simp at hi
 | cons h l ih =>
  rw[kcells_cons]
  cases i with
  | zero=>exact⟨by simp[nth],by simp[nth],by simp[nth],by simp[nth],by simp[nth],by simp[nth]⟩
  | succ i =>
   have:=ih i (by simpa using hi)
   have e:(i+1)*6=i*6+6:=by omega
   have e2:nth (h::l) (i+1)=nth l i:=by unfold nth;rw[List.getD_cons_succ]
   rw[e,e2]
   simpa using this
theorem owns_hks {w:World} {base n:Nat} {v:Value} {l:List ByteArray} (h:w.ownsRow base 70 6 v n (kcells l)):l.length=n∧((v = .slice none 0 0∧n=0)∨∃g cap,v = .slice (some ⟨g,0,none⟩) n cap∧HksAt w (some ⟨g,0,none⟩) l∧base≤g∧g < w.heap.size∧n≤cap∧cap≤maxLen):=by
 obtain⟨h1,h2⟩:=h
 have hl:l.length=n:=by rw[kcells_len] at h1;omega
 refine⟨hl,?_⟩
 rcases h2 with h2|⟨g,cap,cur,rfl,hb,hh,hcap,hml,-,ht⟩
 ·exact .inl h2
 ·have hg:g < w.heap.size:=by obtain⟨q,-⟩:=Array.getElem?_eq_some_iff.1 hh;exact q
  refine .inr ⟨g,cap,rfl,fun i hi=>⟨g,0,rfl,?_⟩,hb,hg,hcap,hml⟩
  have key:∀j,j < n*6→w.cell? ⟨g,0+j,none⟩=(kcells l)[j]?:=fun j hj=>by
   have e:cur[j]?=(kcells l)[j]?:=by
    rw[←ht,List.getElem?_take_of_lt hj];simp
   rw[Nat.zero_add]
   unfold World.cell?
   rw[hh]
   simp only[Option.isSome_none]
   show cur[j]?=_
   rw[e]
  obtain⟨g0,g1,g2,g3,g4,g5⟩:=kcells_at l i hi
  refine⟨?_,?_,?_,?_,?_,?_⟩
  ·rw[key (i*6) (by omega)];exact g0
  ·rw[Nat.add_assoc,key (i*6+1) (by omega)];exact g1
  ·rw[Nat.add_assoc,key (i*6+2) (by omega)];exact g2
  ·rw[Nat.add_assoc,key (i*6+3) (by omega)];exact g3
  ·rw[Nat.add_assoc,key (i*6+4) (by omega)];exact g4
  ·rw[Nat.add_assoc,key (i*6+5) (by omega)];exact g5
theorem infoHk:(Tryz.prog.info? 70).map (fun i=>(i.zero,i.size,i.bytes))=some (some (.agg #[.string ⟨#[]⟩,.string ⟨#[]⟩,.string ⟨#[]⟩,.string ⟨#[]⟩,.string ⟨#[]⟩,.string ⟨#[]⟩]),6,96):=by kernel_rfl
theorem own_lat {w w':World} {base:Nat} {e:TypeId} {size:Nat} {v:Value} {n:Nat} {xs:List Value} (h:w.ownsRow base e size v n xs) (hb:Below w.heap.size w w'):w'.ownsRow base e size v n xs:=by
 refine⟨h.1,?_⟩
 rcases h.2 with hn|⟨g,cap,cur,rfl,hbg,hgg,rest⟩
 ·exact .inl hn
 ·refine .inr ⟨g,cap,cur,rfl,hbg,?_,rest⟩
  rw[hb.block g (Array.getElem?_eq_some_iff.1 hgg).1]
  exact hgg
theorem own_apart {w w':World} {base base2:Nat} {e e2:TypeId} {size size2:Nat} {v v2:Value} {n n2:Nat} {xs xs2:List Value} (h:w.ownsRow base e size v n xs) (h2:w.ownsRow base2 e2 size2 v2 n2 xs2) (hne:e≠e2) (hg:w.grownBy w' v2.ownBlock):w'.ownsRow base e size v n xs:=by
 refine⟨h.1,?_⟩
 rcases h.2 with hn|⟨g,cap,cur,rfl,hbg,hgg,rest⟩
 ·exact .inl hn
 ·refine .inr ⟨g,cap,cur,rfl,hbg,?_,rest⟩
  have hl:=(Array.getElem?_eq_some_iff.1 hgg).1
  rw[hg.block g hl ?_]
  ·exact hgg
  ·intro he
   rcases h2.2 with ⟨rfl,-⟩|⟨g2,cap2,cur2,rfl,-,hg2,-⟩
   ·cases he
   ·have:g2=g:=by simpa[Value.ownBlock] using he.symm
    subst this
    rw[hgg] at hg2
    injection hg2 with hg2
    injection hg2 with _ q
    exact hne q
theorem blk_apart {w w':World} {base2:Nat} {e e2:TypeId} {size2:Nat} {v2:Value} {n2:Nat} {xs2:List Value} {b:Nat} {cs:Array Value} (h:w.heap[b]?=some (.cells cs e)) (h2:w.ownsRow base2 e2 size2 v2 n2 xs2) (hne:e≠e2) (hg:w.grownBy w' v2.ownBlock):w'.heap[b]?=some (.cells cs e):=by
 have hl:=(Array.getElem?_eq_some_iff.1 h).1
 rw[hg.block b hl ?_]
 ·exact h
 ·intro he
  rcases h2.2 with ⟨rfl,-⟩|⟨g2,cap2,cur2,rfl,-,hg2,-⟩
  ·cases he
  ·have:g2=b:=by simpa[Value.ownBlock] using he.symm
   subst this
   rw[h] at hg2
   injection hg2 with hg2
   injection hg2 with _ q
   exact hne q
theorem cells_of_blk {w:World} {b:Nat} {cs:Array Value} {e:TypeId} (h:w.heap[b]?=some (.cells cs e)):∀j u,cs.toList[j]?=some u→w.cell? (Addr.add ⟨b,0,none⟩ j)=some u:=fun j u hu=>by
 have q:Addr.add ⟨b,0,none⟩ j=⟨b,j,none⟩:=by first|(simp[Addr.add];done)|(simp[Addr.add];intro h;simp[h])
 rw[q]
 unfold World.cell?
 rw[h]
 simp only[Option.isSome_none]
 show cs[j]?=_
 simpa using hu
theorem owns_new (w:World) (base:Nat) (e:TypeId) (size:Nat) (xs:List Value) (hb:base≤w.heap.size) (hl:xs.length=size):(w.alloc (.cells xs.toArray e)).ownsRow base e size (.slice (some ⟨w.heap.size,0,none⟩) 1 1) 1 xs:=by
 refine⟨by omega,.inr ⟨w.heap.size,1,xs.toArray,rfl,hb,?_,Nat.le_refl _,by unfold maxLen;omega,by simp[hl],by simp[←hl]⟩⟩
 show (w.heap.push _)[w.heap.size]?=_
 simp
theorem secs_cons (seed p:ByteArray) (ps bs:List ByteArray):secs seed (p::ps) bs=(Crv.chn (seed::bs) p).bind fun s=>(secs seed ps (bs++[bld s])).map (s::·):=secsG_cons _ _ _ _ _
theorem secs_nil (seed:ByteArray) (bs:List ByteArray):secs seed [] bs=some []:=secsG_nil _ _ _
def Made (seed:ByteArray) (pts:List ByteArray) (k:Nat) (ss:List ByteArray):Prop:=ss.length=k∧secs seed pts []=(secs seed (pts.drop k) (ss.map bld)).map (ss++·)
theorem Made.zero (seed:ByteArray) (pts:List ByteArray):Made seed pts 0 []:=⟨rfl,by
 rw[List.drop_zero,List.map_nil]
 cases secs seed pts [] <;> simp⟩
theorem Made.none {seed:ByteArray} {pts:List ByteArray} {k:Nat} {ss:List ByteArray} (h:Made seed pts k ss) (hk:k < pts.length) (hc:Crv.chn (seed::ss.map bld) pts[k]=none):secs seed pts []=none:=by
 rw[h.2,List.drop_eq_getElem_cons hk,secs_cons,hc,Option.bind_none,Option.map_none]
theorem Made.succ {seed:ByteArray} {pts:List ByteArray} {k:Nat} {ss:List ByteArray} (h:Made seed pts k ss) (hk:k < pts.length) (s:ByteArray) (hc:Crv.chn (seed::ss.map bld) pts[k]=some s):Made seed pts (k+1) (ss++[s]):=by
 refine⟨by rw[List.length_append,h.1];rfl,?_⟩
 rw[h.2,List.drop_eq_getElem_cons hk,secs_cons,hc,Option.bind_some,List.map_append,List.map_cons,List.map_nil]
 cases secs seed (pts.drop (k+1)) (ss.map bld++[bld s]) with
 | none=>rfl
 | some l=>simp
theorem Made.all {seed:ByteArray} {pts:List ByteArray} {ss:List ByteArray} (h:Made seed pts pts.length ss):secs seed pts []=some ss:=by
 rw[h.2,List.drop_length,secs_nil];simp
theorem bld_size (s:ByteArray):(bld s).size=32:=hdk_size _ _ _
theorem wh_blds (seed:ByteArray) (ss:List ByteArray) (h:seed.size=32):Crv.wh (seed::ss.map bld)=true:=by
 unfold Crv.wh
 rw[List.all_eq_true]
 intro x hx
 rcases List.mem_cons.1 hx with rfl|hx
 ·simpa using h
 ·obtain⟨s,-,rfl⟩:=List.mem_map.1 hx
  simpa using bld_size s
end Go.Proofs.YtgnkkjknngblbaaGreatDoor
namespace Go.Proofs.YtgnkkjknngblbaaGreatDoor
open Go.RowKit Go.Proofs.Fd Go.Proofs.Hs Go.Proofs.Cc Go.Proofs.Hd Go.Proofs.Rt
set_option maxRecDepth 20000
def ycell (s:ByteArray):List Value:=[.string (hdk s lFlow 32),.string (hdk s lMac 32),.string (hdk s lBody 32),.string (bld s),.string (hdk s lTag 16)]
def ycells (l:List ByteArray):List Value:=l.flatMap ycell
theorem ycells_cons (s:ByteArray) (l:List ByteArray):ycells (s::l) = .string (hdk s lFlow 32) :: .string (hdk s lMac 32) :: .string (hdk s lBody 32) :: .string (bld s) :: .string (hdk s lTag 16)::ycells l:=by
 unfold ycells;rw[List.flatMap_cons];unfold ycell;rw[List.cons_append,List.cons_append,List.cons_append,List.cons_append,List.cons_append,List.nil_append]
theorem ycells_snoc (l:List ByteArray) (s:ByteArray):ycells (l++[s])=ycells l++ycell s:=by
 unfold ycells;rw[List.flatMap_append,List.flatMap_cons,List.flatMap_nil,List.append_nil]
theorem ycells_len (l:List ByteArray):(ycells l).length=l.length*5:=by
 induction l with
 | nil=>rfl
 | cons h l ih=>rw[ycells_cons];simp only[List.length_cons,ih];omega
theorem ycells_at (l:List ByteArray) (i:Nat) (hi:i < l.length):(ycells l)[i*5]?=some (.string (hdk (nth l i) lFlow 32))∧(ycells l)[i*5+1]?=some (.string (hdk (nth l i) lMac 32))∧(ycells l)[i*5+2]?=some (.string (hdk (nth l i) lBody 32))∧(ycells l)[i*5+3]?=some (.string (bld (nth l i)))∧(ycells l)[i*5+4]?=some (.string (hdk (nth l i) lTag 16)):=by
 induction l generalizing i with
 | nil=>simp at hi
 | cons h l ih =>
  rw[ycells_cons]
  cases i with
  | zero=>exact⟨by simp[nth],by simp[nth],by simp[nth],by simp[nth],by simp[nth]⟩
  | succ i =>
   have:=ih i (by simpa using hi)
   have e:(i+1)*5=i*5+5:=by omega
   have e2:nth (h::l) (i+1)=nth l i:=by unfold nth;rw[List.getD_cons_succ]
   rw[e,e2]
   simpa using this
theorem owns_kys {w:World} {base n:Nat} {v:Value} {l:List ByteArray} (h:w.ownsRow base 53 5 v n (ycells l)):l.length=n∧((v = .slice none 0 0∧n=0)∨∃g cap,v = .slice (some ⟨g,0,none⟩) n cap∧KyAt w (some ⟨g,0,none⟩) l∧base≤g∧g < w.heap.size∧n≤cap∧cap≤maxLen):=by
 obtain⟨h1,h2⟩:=h
 have hl:l.length=n:=by rw[ycells_len] at h1;omega
 refine⟨hl,?_⟩
 rcases h2 with h2|⟨g,cap,cur,rfl,hb,hh,hcap,hml,-,ht⟩
 ·exact .inl h2
 ·have hg:g < w.heap.size:=by obtain⟨q,-⟩:=Array.getElem?_eq_some_iff.1 hh;exact q
  refine .inr ⟨g,cap,rfl,fun i hi=>⟨g,0,rfl,?_⟩,hb,hg,hcap,hml⟩
  have key:∀j,j < n*5→w.cell? ⟨g,0+j,none⟩=(ycells l)[j]?:=fun j hj=>by
   have e:cur[j]?=(ycells l)[j]?:=by
    rw[←ht,List.getElem?_take_of_lt hj];simp
   rw[Nat.zero_add]
   unfold World.cell?
   rw[hh]
   simp only[Option.isSome_none]
   show cur[j]?=_
   rw[e]
  obtain⟨g0,g1,g2,g3,g4⟩:=ycells_at l i hi
  refine⟨?_,?_,?_,?_,?_⟩
  ·rw[key (i*5) (by omega)];exact g0
  ·rw[Nat.add_assoc,key (i*5+1) (by omega)];exact g1
  ·rw[Nat.add_assoc,key (i*5+2) (by omega)];exact g2
  ·rw[Nat.add_assoc,key (i*5+3) (by omega)];exact g3
  ·rw[Nat.add_assoc,key (i*5+4) (by omega)];exact g4
theorem infoKy:(Tryz.prog.info? 53).map (fun i=>(i.zero,i.size,i.bytes))=some (some (.agg #[.string ⟨#[]⟩,.string ⟨#[]⟩,.string ⟨#[]⟩,.string ⟨#[]⟩,.string ⟨#[]⟩]),5,80):=by kernel_rfl
def ScP (w w':World) (seed:ByteArray) (pts:List ByteArray) (n:Nat) (e:Ending):Prop :=
 (secs seed pts []=none→e = .returned (.tuple #[.slice none 0 0,.int .i64 20]))∧(∀ss,secs seed pts []=some ss→∃v,e = .returned (.tuple #[v,.int .i64 0])∧w'.ownsRow w.heap.size 53 5 v n (ycells ss))∧Below w.heap.size w w'
theorem blds_succ (ss:List ByteArray) (q:Nat) (hq:q < ss.length):scells ((ss.take (q+1)).map bld)=scells ((ss.take q).map bld)++[.string (bld (nth ss q))]:=by
 rw[List.take_succ_eq_append_getElem hq,List.map_append]
 unfold scells nth
 rw[List.map_append,List.getD_eq_getElem?_getD,List.getElem?_eq_getElem hq]
 rfl
set_option maxHeartbeats 1000000 in
theorem rsecrets_any (seed:ByteArray) (zs:Hid (seed.size=32)) (a:Option Addr) (pts:List ByteArray) (n cap:Nat) (hn:Hid (pts.length=n)) (h5:n≤5) (hw:Hid (Crv.wh pts=true)) (w:World) (hc:Hid (StrAt w a pts)) :
  Calls Tryz.prog 35 #[.string seed,.slice a n cap] w fun e w'=>ScP w w' seed pts n e:=by
 obtain⟨i6,hi6,hz60,hz61,hz62⟩:=info_parts infoKy
 obtain⟨i7,hi7,hz70,hz71,hz72⟩:=info_parts infoStr
 go_enter Tryz.func35, Tryz.ntmps35
 go_wp2_with fail
 go_loopw [6,7] (fun v6 iv wr=>∃(k:Nat) (ss:List ByteArray),k≤n∧iv = .int .i64 (k:Int)∧Hid (Made seed pts k ss∧wr.ownsRow w.heap.size 53 5 v6 k (ycells ss)∧Below w.heap.size w wr)) (fun _ iv _=>n - (intOf iv).toNat)
 case atStart=>exact⟨0,[],Nat.zero_le _,rfl,Made.zero _ _,⟨rfl,.inl ⟨rfl,rfl⟩⟩,Below.refl _ _⟩
 case round =>
  obtain⟨k,ss,hk,rfl,I⟩:=hrel
  by_cases hlt:k < n
  ·have g1:(k:Int) < (n:Int):=by omega
   have hk':k < pts.length:=by have:=hn.out;omega
   have lss:Hid (ss.length=k):=I.out.1.1
   go_wp2_with fail
   obtain⟨A,hA⟩:∃A,wr.alloc (.cells #[.string seed] 9)=A:=⟨_,rfl⟩
   have J0:Hid (A.ownsRow w.heap.size 53 5 u6 k (ycells ss)∧A.ownsRow w.heap.size 9 1 (.slice (some ⟨wr.heap.size,0,none⟩) 1 1) 1 (scells [seed])∧Below w.heap.size w A):=by
    rw[←hA]
    exact⟨own_lat I.out.2.1 ((Below.refl _ _).alloc (Nat.le_refl _) _),owns_new wr w.heap.size 9 1 [.string seed] I.out.2.2.size rfl,I.out.2.2.alloc I.out.2.2.size _⟩
   have M0:Hid (Made seed pts k ss):=I.out.1
   rw[hA]
   clear hA I
   generalize wr.heap.size=g0 at *
   go_loopw [8,9] (fun v8 iv wx=>∃q:Nat,q≤k∧iv = .int .i64 (q:Int)∧Hid (wx.ownsRow w.heap.size 53 5 u6 k (ycells ss)∧wx.ownsRow w.heap.size 9 1 v8 (q+1) (scells (seed::(ss.take q).map bld))∧Below w.heap.size w wx)) (fun _ iv _=>k - (intOf iv).toNat)
   case atStart=>exact⟨0,Nat.zero_le _,rfl,J0.out⟩
   case round =>
    obtain⟨q,hq,rfl,I⟩:=hrel
    clear J0
    by_cases hqk:q < k
    ·have g2:(q:Int) < (k:Int):=by omega
     obtain⟨g6,c6,hu6,hky⟩:∃g c,u6=Value.slice (some ⟨g,0,none⟩) k c∧KyAt wr (some ⟨g,0,none⟩) ss:=by
      obtain⟨-,hor⟩:=owns_kys I.out.1
      rcases hor with ⟨e1,e2⟩|⟨g,c,e1,e2,-⟩
      ·omega
      ·exact⟨g,c,e1,e2⟩
     subst hu6
     obtain⟨b',o',he,d0,d1,d2,d3,d4⟩:=hky q (by rw[lss.out];exact hqk)
     cases he
     simp only[Nat.zero_add] at d3
     have BS:Hid (scells (seed::(ss.take (q+1)).map bld)=scells (seed::(ss.take q).map bld)++[.string (bld (nth ss q))]):=by
      have:=blds_succ ss q (by rw[lss.out];exact hqk)
      unfold scells at this ⊢
      rw[List.map_cons,List.map_cons,this]
      rfl
     generalize bld (nth ss q)=X at *
     clear hky d0 d1 d2 d4
     go_wp2_with (first
      | (at_builtin;refine wpList_append_own _ rfl _ _ 22 rfl w.heap.size 9 i7 (.string ⟨#[]⟩) 1 16 Tryz.underlying22 hi7 hz70 hz71 hz72 rfl (by decide) _ _ _ rfl (I.out.2.1.alloc _) ⟨wr.heap.size,0,none⟩ 1 1 [.string X] rfl rfl (cells_new _ _ _) (by intro u hu;simp at hu;subst hu;rfl) (by unfold maxLen;omega) (by omega) (by have:=I.out.2.2.size;simp;omega) ?_;intro v1 w4 hown1 hgrow1 hnil1))
     have O4:Hid (w4.ownsRow w.heap.size 53 5 (Value.slice (some ⟨g6,0,none⟩) k c6) k (ycells ss)∧w4.ownsRow w.heap.size 9 1 v1 (q+1+1) (scells (seed::(ss.take (q+1)).map bld))∧Below w.heap.size w w4):=by
      refine⟨own_apart (own_lat I.out.1 ((Below.refl _ _).alloc (Nat.le_refl _) _)) (I.out.2.1.alloc _) (by decide) hgrow1,?_,(I.out.2.2.alloc I.out.2.2.size _).grown hgrow1 (by have:=I.out.2.2.size;simp;omega) (fun j hj=>(I.out.2.1.lt j hj).1)⟩
      rw[BS.out];exact hown1
     clear hown1 hgrow1 hnil1 I BS d3
     go_wp2
     exact⟨⟨q+1,by omega,by go_num,O4.out⟩,by simp[intOf];omega⟩
    ·obtain rfl:q=k:=by omega
     have g2:¬(q:Int) < (q:Int):=by omega
     have TK:Hid ((ss.take q).map bld=ss.map bld):=(show _=_ by rw[List.take_of_length_le (by rw[lss.out];exact Nat.le_refl _)])
     rw[TK.out] at I
     clear TK
     obtain⟨b,o,rfl,hcell⟩:=StrAt.later hc.out I.out.2.2 rfl q hk'
     obtain⟨p,hp⟩:∃p,pts[q]=p:=⟨_,rfl⟩
     rw[hp] at hcell
     have zp:Hid (p.size=32):=by rw[←hp];exact Crv.wh_mem hw.out q hk'
     obtain⟨g7,c7,hv7,hst⟩:∃g c,u8=Value.slice (some ⟨g,0,none⟩) (q+1) c∧StrAt wr (some ⟨g,0,none⟩) (seed::ss.map bld):=by
      obtain⟨-,hor⟩:=owns_strs I.out.2.1
      rcases hor with ⟨e1,e2⟩|⟨g,c,e1,e2⟩
      ·omega
      ·exact⟨g,c,e1,e2⟩
     subst hv7
     have CH:Hid (Calls Tryz.prog 73 #[.string p,.slice (some ⟨g7,0,none⟩) (q+1) c7] wr fun e w'=>e = .returned (.tuple (Crv.och (Crv.chn (seed::ss.map bld) p)))∧Below wr.heap.size wr w'):=by
      have lk:(seed::ss.map bld).length=q+1:=by simp[lss.out]
      have h:=Crv.rChain_all p (some ⟨g7,0,none⟩) (seed::ss.map bld) (q+1) c7 lk (by omega) wr hst
      unfold Crv.chA at h
      rw[if_pos ⟨zp.out,wh_blds seed ss zs.out⟩,if_neg (by rw[lk];omega)] at h
      exact h
     clear hst
     cases hch:Crv.chn (seed::ss.map bld) p with
     | none =>
      have FN:Hid (secs seed pts []=none):=M0.out.none hk' (by rw[hp];exact hch)
      rw[hch] at CH
      have CH':Hid (Calls Tryz.prog 73 #[.string p,.slice (some ⟨g7,0,none⟩) (q+1) c7] wr fun e w'=>e = .returned (.tuple #[.string ⟨#[]⟩,.int .i64 20])∧Below wr.heap.size wr w'):=CH
      clear CH hch hp
      go_wp2_with fail
      refine Calls.mono CH'.out ?_
      rintro e w1 ⟨rfl,hb1⟩
      have B1:Hid (Below w.heap.size w w1):=chain I.out.2.2 hb1
      clear hb1 CH'
      go_wp2
      go_ret2
      exact⟨fun _=>rfl,fun ss h=>by rw[FN.out] at h;(cases h),B1.out⟩
     | some s =>
      have FS:Hid (Made seed pts (q+1) (ss++[s])):=M0.out.succ hk' s (by rw[hp];exact hch)
      have OF:Hid (∀w,Calls Tryz.prog 59 #[.string s] w fun e w'=>e = .returned (kv s)∧Below w.heap.size w w'):=fun w=>rOf_any s (by
       have:=Crv.chn_size _ _ _ zp.out hch
       show s.size+64≤_
       omega) w
      rw[hch] at CH
      have CH':Hid (Calls Tryz.prog 73 #[.string p,.slice (some ⟨g7,0,none⟩) (q+1) c7] wr fun e w'=>e = .returned (.tuple #[.string s,.int .i64 0])∧Below wr.heap.size wr w'):=CH
      unfold kv at OF
      have KS:Hid (ycells (ss++[s])=ycells ss++ycell s):=ycells_snoc ss s
      unfold ycell at KS
      clear CH hch hp
      go_wp2_with fail
      refine Calls.mono CH'.out ?_
      rintro e w1 ⟨rfl,hb1⟩
      have J1:Hid (w1.ownsRow w.heap.size 53 5 u6 q (ycells ss)∧Below w.heap.size w w1):=⟨own_lat I.out.1 hb1,chain I.out.2.2 hb1⟩
      clear hb1 CH' I hcell
      go_wp2_with fail
      refine Calls.mono (OF.out _) ?_
      rintro e w2 ⟨rfl,hb2⟩
      have J2:Hid (w2.ownsRow w.heap.size 53 5 u6 q (ycells ss)∧Below w.heap.size w w2):=⟨own_lat J1.out.1 hb2,chain J1.out.2 hb2⟩
      clear hb2 J1 OF
      generalize hdk s lFlow 32=k0 at *
      generalize hdk s lMac 32=k1 at *
      generalize hdk s lBody 32=k2 at *
      generalize bld s=k3 at *
      generalize hdk s lTag 16=k4 at *
      go_wp2_with (first
       | (at_builtin;refine wpList_append_own _ rfl _ _ 46 rfl w.heap.size 53 i6 _ 5 80 Tryz.underlying46 hi6 hz60 hz61 hz62 rfl (by decide) _ _ _ rfl (J2.out.1.alloc _) ⟨w2.heap.size,0,none⟩ 1 1 [.string k0,.string k1,.string k2,.string k3,.string k4] rfl rfl (cells_new _ _ _) (by intro u hu;simp at hu;rcases hu with rfl|rfl|rfl|rfl|rfl <;> rfl) (by unfold maxLen;omega) (by omega) (by have:=J2.out.2.size;simp;omega) ?_;intro v1 w4 hown1 hgrow1 hnil1))
      have O4:Hid (Made seed pts (q+1) (ss++[s])∧w4.ownsRow w.heap.size 53 5 v1 (q+1) (ycells (ss++[s]))∧Below w.heap.size w w4):=by
       refine⟨FS.out,?_,(J2.out.2.alloc J2.out.2.size _).grown hgrow1 (by have:=J2.out.2.size;simp;omega) (fun j hj=>(J2.out.1.lt j hj).1)⟩
       rw[KS.out];exact hown1
      clear hown1 hgrow1 hnil1 J2 KS FS
      go_wp2
      exact⟨⟨q+1,ss++[s],by omega,by go_num,O4.out⟩,by simp[intOf];omega⟩
  ·obtain rfl:k=n:=by omega
   have g1:¬(k:Int) < (k:Int):=by omega
   have FS:Hid (secs seed pts []=some ss):=Made.all (by rw[hn.out];exact I.out.1)
   go_wp2
   go_ret2
   exact⟨fun h=>by rw[FS.out] at h;(cases h),fun ss' h=>by rw[FS.out] at h;cases h;exact⟨_,rfl,I.out.2.1⟩,I.out.2.2⟩
end Go.Proofs.YtgnkkjknngblbaaGreatDoor
namespace Go.Proofs.YtgnkkjknngblbaaGreatDoor
open Go.RowKit Go.Proofs.Fd Go.Proofs.Hs Go.Proofs.Cc Go.Proofs.Hd Go.Proofs.Rt
set_option maxRecDepth 20000
def Lb (seed:ByteArray) (ss:List ByteArray) (hs:List Hp) (j:Nat):ByteArray:=⟨(lsts hs.length (fun i=>hflow (nth ss i)) (fun i=>byt (hs.getD i zh)) (fun i l=>hmacf (nth ss i) l) (drv seed.data.toList lPad 200) j).toArray⟩
theorem Lb_data (seed:ByteArray) (ss:List ByteArray) (hs:List Hp) (j:Nat):(Lb seed ss hs j).data.toList=lsts hs.length (fun i=>hflow (nth ss i)) (fun i=>byt (hs.getD i zh)) (fun i l=>hmacf (nth ss i) l) (drv seed.data.toList lPad 200) j:=by unfold Lb;simp
theorem Lb_hlst (seed:ByteArray) (ss:List ByteArray) (hs:List Hp) (i:Nat):(Lb seed ss hs (hs.length - 1 - i)).data.toList=hlst seed ss hs i:=by rw[Lb_data];unfold hlst;with_reducible rfl
def Ins (seed:ByteArray) (ss:List ByteArray) (hs:List Hp):Nat→ByteArray
 | 0=>zba 16++hdk seed lPad 200
 | j+1=>hmb (nth ss (hs.length - 1 - j)) (Lb seed ss hs j)++Lb seed ss hs j
def En (ss:List ByteArray) (m:Nat):Nat→ByteArray
 | 0=>fbs ss m
 | _+1=>⟨#[]⟩
theorem Ins_zero (seed:ByteArray) (ss:List ByteArray) (hs:List Hp):Ins seed ss hs 0=zba 16++hdk seed lPad 200:=by rw[Ins]
theorem Ins_succ (seed:ByteArray) (ss:List ByteArray) (hs:List Hp) (j:Nat):Ins seed ss hs (j+1)=hmb (nth ss (hs.length - 1 - j)) (Lb seed ss hs j)++Lb seed ss hs j:=by rw[Ins]
theorem Lb_size (seed:ByteArray) (ss:List ByteArray) (hs:List Hp) (h:hs.all ok=true) (hn:1≤hs.length∧hs.length≤5) (j:Nat) (hj:j < hs.length):(Lb seed ss hs j).size=200:=by
 obtain⟨e,-⟩:=(hlst_are seed ss hs h hn).ends (hs.length - 1 - j) (by omega)
 rw[←Lb_hlst,list_sz,show hs.length - 1 - (hs.length - 1 - j)=j by omega] at e
 exact e
theorem Ins_size (seed:ByteArray) (ss:List ByteArray) (hs:List Hp) (h:hs.all ok=true) (hn:1≤hs.length∧hs.length≤5) (j:Nat) (hj:j≤hs.length):(Ins seed ss hs j).size=216:=by
 cases j with
 | zero=>rw[Ins_zero,ba_add,zba_size,hdk_size]
 | succ j=>rw[Ins_succ,ba_add,hmb_size,Lb_size seed ss hs h hn j (by omega)]
theorem En_size (ss:List ByteArray) (m:Nat) (hm:m≤6) (j:Nat):(En ss m j).size=if j=0 then 40*m else 0:=by
 cases j with
 | zero=>show (fbs ss m).size=_;rw[fbs_size ss m hm,if_pos rfl]
 | succ j=>rw[if_neg (by omega)];rfl
theorem Lb_step (seed:ByteArray) (ss:List ByteArray) (hs:List Hp) (h:hs.all ok=true) (hn:1≤hs.length∧hs.length≤5) (m j i:Nat) (hm:m+1=hs.length) (hi:i+j=m) :
  htn (nth ss i) ((⟨(byt (hs.getD i zh)).toArray⟩++Ins seed ss hs j).extract 0 (200 - (En ss m j).size))++En ss m j=Lb seed ss hs j:=by
 have e:(htn (nth ss i) ((⟨(byt (hs.getD i zh)).toArray⟩++Ins seed ss hs j).extract 0 (200 - (En ss m j).size))++En ss m j).data.toList=(Lb seed ss hs j).data.toList:=by
  rw[ba_app]
  unfold htn
  have x1:∀l:List UInt8,((⟨l.toArray⟩:ByteArray).data.toList)=l:=fun l=>by simp
  rw[x1]
  have x2:((⟨(byt (hs.getD i zh)).toArray⟩++Ins seed ss hs j).extract 0 (200 - (En ss m j).size)).data.toList=(byt (hs.getD i zh)++(Ins seed ss hs j).data.toList).take (200 - (En ss m j).size):=by
   rw[ByteArray.data_extract,Array.toList_extract,List.extract_eq_take_drop,List.drop_zero,ba_app,x1,Nat.sub_zero]
  rw[x2,Lb_data,En_size ss m (by omega) j]
  cases j with
  | zero =>
   obtain rfl:i=m:=by omega
   rw[lsts,if_pos rfl,Ins_zero,ba_app,zba_data,hdk_data,show hs.length - 1=i by omega,List.append_assoc]
   rfl
  | succ j =>
   have l1:(byt (hs.getD i zh)).length=24:=byt_len' hs h i
   have l2:(lsts hs.length (fun i=>hflow (nth ss i)) (fun i=>byt (hs.getD i zh)) (fun i l=>hmacf (nth ss i) l) (drv seed.data.toList lPad 200) j).length=200:=by
    rw[←Lb_data,list_sz,Lb_size seed ss hs h hn j (by omega)]
   rw[lsts,if_neg (by omega),Ins_succ,ba_app,Lb_data]
   have x3:(hmb (nth ss (hs.length - 1 - j)) (Lb seed ss hs j)).data.toList=hmacf (nth ss (hs.length - 1 - j)) (lsts hs.length (fun i=>hflow (nth ss i)) (fun i=>byt (hs.getD i zh)) (fun i l=>hmacf (nth ss i) l) (drv seed.data.toList lPad 200) j):=by
    unfold hmb;rw[x1,Lb_data]
   rw[x3,show hs.length - 2 - j=i by omega]
   have x4:(En ss m (j+1)).data.toList=[]:=rfl
   rw[x4,List.append_nil]
   generalize lsts hs.length (fun i=>hflow (nth ss i)) (fun i=>byt (hs.getD i zh)) (fun i l=>hmacf (nth ss i) l) (drv seed.data.toList lPad 200) j=L at *
   have l3:=hmacf_len (nth ss (hs.length - 1 - j)) L
   generalize hmacf (nth ss (hs.length - 1 - j)) L=M at *
   generalize byt (hs.getD i zh)=C at *
   congr 1
   rw[←List.append_assoc,List.take_append,List.length_append,l1,l3,List.take_of_length_le (by rw[List.length_append,l1,l3];decide)]
 exact ByteArray.ext (Array.toList_inj.1 e)
theorem Ins_all (seed:ByteArray) (ss:List ByteArray) (hs:List Hp) (hn:1≤hs.length):ptB seed []++Ins seed ss hs hs.length=⟨(hhead seed ss hs 0).toArray⟩:=by
 obtain⟨m,hm⟩:∃m,hs.length=m+1:=⟨hs.length - 1,by omega⟩
 apply ba_of
 have e:hs.length - 1 - m=0:=by omega
 rw[ba_app]
 conv=>lhs;rw[hm]
 rw[Ins_succ,e,ba_app]
 unfold hhead
 have x:(hmb (nth ss 0) (Lb seed ss hs m)).data.toList=hmacf (nth ss 0) (Lb seed ss hs m).data.toList:=by unfold hmb;simp
 have y:(Lb seed ss hs m).data.toList=hlst seed ss hs 0:=by rw[←Lb_hlst,hm];rfl
 rw[x,y,List.take_zero,List.map_nil,List.append_assoc]
end Go.Proofs.YtgnkkjknngblbaaGreatDoor
namespace Go.Proofs.YtgnkkjknngblbaaGreatDoor
open Go.RowKit Go.Proofs.Fd Go.Proofs.Hs Go.Proofs.Cc Go.Proofs.Hd Go.Proofs.Rt
set_option maxRecDepth 20000
theorem ba_assoc (a b c:ByteArray):a++b++c=a++(b++c):=by
 apply ByteArray.ext
 apply Array.toList_inj.1
 rw[ba_app,ba_app,ba_app,ba_app,List.append_assoc]
theorem hfl_data (s:ByteArray):(hfl s).data.toList=hflow s:=by unfold hfl;simp
theorem htn_fl (s t:ByteArray):(⟨(xorl t.data.toList (hfl s).data.toList).toArray⟩:ByteArray)=htn s t:=by rw[hfl_data];unfold htn;with_reducible rfl
theorem Lb_with0 (seed:ByteArray) (ss:List ByteArray) (hs:List Hp) (h:hs.all ok=true) (hn:1≤hs.length∧hs.length≤5) (m f:Nat) (hm:m+1=hs.length) (hf:f+40*m=200) :
  (⟨(xorl ((⟨(byt (hs.getD m zh)).toArray⟩++zba 16++hdk seed lPad 200).extract 0 f).data.toList (hfl (nth ss m)).data.toList).toArray⟩:ByteArray)++fbs ss m=Lb seed ss hs 0:=by
 have e:=Lb_step seed ss hs h hn m 0 m hm (by omega)
 rw[En_size ss m (by omega) 0,if_pos rfl,show 200 - 40*m=f by omega,Ins_zero,←ba_assoc] at e
 rw[htn_fl]
 exact e
theorem Lb_with (seed:ByteArray) (ss:List ByteArray) (hs:List Hp) (h:hs.all ok=true) (hn:1≤hs.length∧hs.length≤5) (m j i:Nat) (hm:m+1=hs.length) (hi:i+(j+1)=m) :
  (⟨(xorl (⟨(byt (hs.getD i zh)).toArray⟩++hmb (nth ss (i+1)) (Lb seed ss hs j)++(Lb seed ss hs j).extract 0 160).data.toList (hfl (nth ss i)).data.toList).toArray⟩:ByteArray)=Lb seed ss hs (j+1):=by
 have e:=Lb_step seed ss hs h hn m (j+1) i hm (by omega)
 have e0:En ss m (j+1)=⟨#[]⟩:=rfl
 have zl:=Lb_size seed ss hs h hn j (by omega)
 have zc:(⟨(byt (hs.getD i zh)).toArray⟩:ByteArray).size=24:=by rw[ba_sz];exact byt_len' hs h i
 have zm:=hmb_size (nth ss (i+1)) (Lb seed ss hs j)
 rw[e0,Ins_succ,show hs.length - 1 - j=i+1 by omega] at e
 rw[htn_fl,←e]
 generalize Lb seed ss hs j=L at *
 generalize hmb (nth ss (i+1)) L=M at *
 generalize (⟨(byt (hs.getD i zh)).toArray⟩:ByteArray)=C at *
 have x:C++M++L.extract 0 160=(C++(M++L)).extract 0 (200 - (⟨#[]⟩:ByteArray).size):=by
  apply ByteArray.ext
  apply Array.toList_inj.1
  rw[ByteArray.data_extract,Array.toList_extract,List.extract_eq_take_drop,List.drop_zero,ba_app,ba_app,ba_app,ba_app,←List.append_assoc,ByteArray.data_extract,Array.toList_extract,List.extract_eq_take_drop,List.drop_zero,List.take_append,List.length_append,list_sz,list_sz,zc,zm,List.take_of_length_le (l:=C.data.toList++M.data.toList) (by rw[List.length_append,list_sz,list_sz,zc,zm];decide)]
  rfl
 rw[x]
 apply ByteArray.ext
 apply Array.toList_inj.1
 rw[ba_app]
 show _=_++[]
 rw[List.append_nil]
theorem head_all (seed:ByteArray) (ss:List ByteArray) (hs:List Hp) (m:Nat) (hm:m+1=hs.length):ptB seed []++hmb (nth ss 0) (Lb seed ss hs m)++Lb seed ss hs m=⟨(hhead seed ss hs 0).toArray⟩:=by
 have e:=Ins_all seed ss hs (by omega)
 rw[←hm] at e
 rw[Ins_succ,show hs.length - 1 - m=0 by omega] at e
 rw[ba_assoc]
 exact e
end Go.Proofs.YtgnkkjknngblbaaGreatDoor
