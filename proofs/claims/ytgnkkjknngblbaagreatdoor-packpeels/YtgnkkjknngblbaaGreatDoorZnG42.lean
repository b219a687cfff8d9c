/- Parts: PkU,PkL5,PkP,PkC,PkD. -/
import Derived.Test.YtgnkkjknngblbaaGreatDoorZnG39
import Derived.Test.YtgnkkjknngblbaaGreatDoorZnG41
import Derived.Test.YtgnkkjknngblbaaGreatDoorZnG34
import Derived.Test.YtgnkkjknngblbaaGreatDoorZnG38
import Derived.Test.YtgnkkjknngblbaaGreatDoorZnG35
import Derived.Deep.RegionHeld3
namespace Go.Proofs.YtgnkkjknngblbaaGreatDoor
open Go.RowKit Go.Proofs.Fd Go.Proofs.Hs Go.Proofs.Cc Go.Proofs.Hd Go.Proofs.Rt Go.Proofs.Wd
set_option maxRecDepth 20000
theorem res_rpd (tmps:Array Value) (w:World) (b:Nat) (x:Hp) (n t s:ByteArray) (e:Int) (h4:tmps.getD 4 undef = .pointer (some ⟨b,0,none⟩)) (h5:tmps.getD 5 undef = .int .i64 e) (l:PdAt w b x n t s) :
  (results Tryz.f13 tmps).run Tryz.prog w = .ok (.tuple #[pdv x n t s,.int .i64 e]) w:=by
 have l1:=run_loadVar_mid (P:=Tryz.prog) w b 0 36 [.int .i64 x.k,.int .i64 x.n,.int .i64 x.u,.int .i64 x.d,.string x.id,.string n,.string t,.string s] _ l.range Tryz.underlying36 rfl (by kernel_rfl)
 unfold results
 rw[Tryz.results13]
 have h4':tmps[4]?.getD undef = .pointer (some ⟨b,0,none⟩):=by simpa using h4
 have h5':tmps[5]?.getD undef = .int .i64 e:=by simpa using h5
 unfold pdv
 simp[h4',h5',l1,asAddr]
set_option maxHeartbeats 400000 in
theorem rpPeel_form (p b:ByteArray) (hb:b.size≠504) (w:World) :
  Calls Tryz.prog 13 #[.string p,.string b] w fun e w'=>e = .returned (.tuple #[pdz,.int .i64 3])∧Below w.heap.size w w':=by
 have g1:((b.size:Int) != 504)=true:=by simp;omega
 obtain⟨A,hA⟩:∃A,w.alloc (.cells #[.int .i64 0,.int .i64 0,.int .i64 0,.int .i64 0,.string ⟨#[]⟩,.string ⟨#[]⟩,.string ⟨#[]⟩,.string ⟨#[]⟩] 36)=A:=⟨_,rfl⟩
 have J:Hid (PdAt A w.heap.size zh ⟨#[]⟩ ⟨#[]⟩ ⟨#[]⟩∧Below w.heap.size w A):=by
  rw[←hA]
  exact⟨PdAt.new _ _ 0 0 0 0 _ _ _ _,(Below.refl _ _).alloc (Nat.le_refl _) _⟩
 have F:Hid (PdAt (putP A w.heap.size zh ⟨#[]⟩ ⟨#[]⟩ ⟨#[]⟩) w.heap.size zh ⟨#[]⟩ ⟨#[]⟩ ⟨#[]⟩∧Below w.heap.size w (putP A w.heap.size zh ⟨#[]⟩ ⟨#[]⟩ ⟨#[]⟩)):=⟨J.out.1.put _ _ _ _,below_putP J.out.2 (Nat.le_refl _) _ _ _ _⟩
 unfold putP zh at F
 obtain⟨⟨h0,h1,h2,h3,h4,h5,h6,h7⟩,z0,z1,z2,z3,z4,z5,z6,z7⟩:=PdAt.cells (k:=0) (n:=0) (u:=0) (d:=0) (id:=⟨#[]⟩) J.out.1
 go_enter Tryz.func13, Tryz.ntmps13
 go_wp2
 refine bodyPost_ret (v := .tuple #[pdz,.int .i64 3]) ?_ rfl ⟨rfl,F.out.2⟩
 exact res_rpd _ _ w.heap.size zh _ _ _ 3 (by kernel_rfl) (by kernel_rfl) F.out.1
set_option maxHeartbeats 400000 in
theorem rpPeel_no (p b:ByteArray) (hb:b.size=504) (w:World) (E:Int) (hE:¬E=0)
  (PE:Hid (∀w',Below w.heap.size w w'→Calls Tryz.prog 24 #[.string p,.string (b.extract 0 248)] w' fun e w''=>e = .returned (.tuple #[hv zh,.string ⟨#[]⟩,kz,.int .i64 E])∧Below w'.heap.size w' w'')) :
  Calls Tryz.prog 13 #[.string p,.string b] w fun e w'=>e = .returned (.tuple #[pdz,.int .i64 E])∧Below w.heap.size w w':=by
 have g1:(b.size:Int)=504:=by omega
 obtain⟨H,hH⟩:∃H,b.extract 0 248=H:=⟨_,rfl⟩
 rw[hH] at PE
 unfold hv zh kz at PE
 simp only at PE
 go_enter Tryz.func13, Tryz.ntmps13
 go_wp2_with fail
 refine Calls.mono (PE.out _ ((Below.refl _ _).alloc (Nat.le_refl _) _)) ?_
 rintro e w1 ⟨rfl,hb1⟩
 have J:Hid (PdAt w1 w.heap.size zh ⟨#[]⟩ ⟨#[]⟩ ⟨#[]⟩∧Below w.heap.size w w1):=⟨(PdAt.zero w).later hb1,chain ((Below.refl _ _).alloc (Nat.le_refl _) _) hb1⟩
 clear hb1 PE
 generalize hgg:w.heap.size=g at *
 have F0:PdAt (putP w1 g zh ⟨#[]⟩ ⟨#[]⟩ ⟨#[]⟩) g zh ⟨#[]⟩ ⟨#[]⟩ ⟨#[]⟩∧Below g w (putP w1 g zh ⟨#[]⟩ ⟨#[]⟩ ⟨#[]⟩):=⟨J.out.1.put _ _ _ _,below_putP J.out.2 (Nat.le_refl _) _ _ _ _⟩
 have F:Hid (PdAt (((putP w1 g zh ⟨#[]⟩ ⟨#[]⟩ ⟨#[]⟩).alloc (.cells #[.int .i64 0,.int .i64 0,.int .i64 0,.int .i64 0,.string ⟨#[]⟩] 34)).alloc (.cells #[.string ⟨#[]⟩,.string ⟨#[]⟩,.string ⟨#[]⟩,.string ⟨#[]⟩,.string ⟨#[]⟩] 53)) g zh ⟨#[]⟩ ⟨#[]⟩ ⟨#[]⟩∧Below g w (((putP w1 g zh ⟨#[]⟩ ⟨#[]⟩ ⟨#[]⟩).alloc (.cells #[.int .i64 0,.int .i64 0,.int .i64 0,.int .i64 0,.string ⟨#[]⟩] 34)).alloc (.cells #[.string ⟨#[]⟩,.string ⟨#[]⟩,.string ⟨#[]⟩,.string ⟨#[]⟩,.string ⟨#[]⟩] 53))) :=
  ⟨(F0.1.later ((Below.refl _ _).alloc (Nat.le_refl _) _)).later ((Below.refl _ _).alloc (Nat.le_refl _) _),(F0.2.alloc (Nat.le_of_lt F0.1.lt) _).alloc (by have:=F0.1.lt;simp;omega) _⟩
 clear F0
 unfold putP zh at F
 obtain⟨⟨h0,h1,h2,h3,h4,h5,h6,h7⟩,z0,z1,z2,z3,z4,z5,z6,z7⟩:=PdAt.cells (k:=0) (n:=0) (u:=0) (d:=0) (id:=⟨#[]⟩) J.out.1
 have lG:=J.out.1.lt
 have lN:¬g=w1.heap.size:=by omega
 have lN1:¬g=w1.heap.size+1:=by omega
 go_wp2
 refine bodyPost_ret (v := .tuple #[pdz,.int .i64 E]) ?_ rfl ⟨rfl,by first|exact F.out.2|(rw[hgg];exact F.out.2)⟩
 exact res_rpd _ _ g zh _ _ _ E (by kernel_rfl) (by kernel_rfl) F.out.1
def Str (w W:World) (g gh:Nat) (x:Hp) (k0 k1 k2 k3 k4:ByteArray):Prop:=PdAt W g zh ⟨#[]⟩ ⟨#[]⟩ ⟨#[]⟩∧HopAt W gh x∧Five W (gh+1) k0 k1 k2 k3 k4∧Below g w W
theorem Str.later {w W W':World} {g gh:Nat} {x:Hp} {k0 k1 k2 k3 k4:ByteArray} (h:Str w W g gh x k0 k1 k2 k3 k4) (hb:Below W.heap.size W W'):Str w W' g gh x k0 k1 k2 k3 k4 :=
 ⟨h.1.later hb,h.2.1.later hb,h.2.2.1.later hb,h.2.2.2.trans (hb.mono (Nat.le_of_lt h.1.lt))⟩
theorem Str.fin {w W:World} {g gh:Nat} {x:Hp} {k0 k1 k2 k3 k4:ByteArray} (h:Str w W g gh x k0 k1 k2 k3 k4) (y:Hp) (n t s:ByteArray):PdAt (putP W g y n t s) g y n t s∧Below g w (putP W g y n t s) :=
 ⟨h.1.put y n t s,below_putP h.2.2.2 (Nat.le_refl _) y n t s⟩
set_option maxHeartbeats 1000000 in
theorem rpPeel_yes (p b:ByteArray) (hb:b.size=504) (w:World) (x:Hp) (n s R UT:ByteArray) (ok:Bool) (V:Array Value) (zn:n.size≤248) (zR:R.size=256)
  (V1:Hid (x.k=1→V=#[pdv x (n++R) (hdk s lTag 16) ⟨#[]⟩,.int .i64 0])) (V2:Hid (x.k≠1→ok=false→V=#[pdz,.int .i64 90])) (V3:Hid (x.k≠1→ok=true→V=#[pdv x ⟨#[]⟩ (hdk s lTag 16) UT,.int .i64 0]))
  (PE:Hid (∀w',Calls Tryz.prog 24 #[.string p,.string (b.extract 0 248)] w' fun e w''=>e = .returned (.tuple #[hv x,.string n,kv s,.int .i64 0])∧Below w'.heap.size w' w''))
  (OP:Hid (∀w',Calls Tryz.prog 25 #[.string (hdk s lBody 32),.string (b.extract 248 504)] w' fun e w''=>e = .returned (.tuple #[.string R,.int .i64 0])∧Below w'.heap.size w' w''))
  (TX:Hid (∀w',Calls Tryz.prog 26 #[.string R] w' fun e w''=>e = .returned (.tuple #[.string UT,.bool ok])∧Below w'.heap.size w' w'')) :
  Calls Tryz.prog 13 #[.string p,.string b] w fun e w'=>e = .returned (.tuple V)∧Below w.heap.size w w':=by
 have g1:(b.size:Int)=504:=by omega
 have AD:∀w,(Op.stringOp .add n R).run Tryz.prog w = .ok (.string (n++R)) w:=fun w=>run_string_add_sum _ _ _ (by omega)
 obtain⟨H,hH⟩:∃H,b.extract 0 248=H:=⟨_,rfl⟩
 obtain⟨B,hB⟩:∃B,b.extract 248 504=B:=⟨_,rfl⟩
 rw[hH] at PE
 rw[hB] at OP
 have e5:b.extract 248 b.size=B:=by rw[hb];exact hB
 generalize n++R=NR at *
 obtain⟨xk,xn,xu,xd,xid⟩:=x
 simp only at V1 V2 V3
 unfold hv kv at PE
 generalize hdk s lFlow 32=k0 at *
 generalize hdk s lMac 32=k1 at *
 generalize hdk s lBody 32=k2 at *
 generalize bld s=k3 at *
 generalize hdk s lTag 16=k4 at *
 simp only at PE
 clear zn zR
 go_enter Tryz.func13, Tryz.ntmps13
 go_wp2_with fail
 refine Calls.mono (PE.out _) ?_
 rintro e w1 ⟨rfl,hb1⟩
 have J:Hid (PdAt w1 w.heap.size zh ⟨#[]⟩ ⟨#[]⟩ ⟨#[]⟩∧Below w.heap.size w w1):=⟨(PdAt.zero w).later hb1,chain ((Below.refl _ _).alloc (Nat.le_refl _) _) hb1⟩
 clear hb1 PE
 generalize hgg:w.heap.size=g at *
 go_wp2_with fail
 obtain⟨A,hA⟩:∃A,(w1.alloc (.cells #[.int .i64 xk,.int .i64 xn,.int .i64 xu,.int .i64 xd,.string xid] 34)).alloc (.cells #[.string k0,.string k1,.string k2,.string k3,.string k4] 53)=A:=⟨_,rfl⟩
 have J2:Hid (Str w A g w1.heap.size ⟨xk,xn,xu,xd,xid⟩ k0 k1 k2 k3 k4):=by
  rw[←hA]
  refine⟨(J.out.1.later ((Below.refl _ _).alloc (Nat.le_refl _) _)).later ((Below.refl _ _).alloc (Nat.le_refl _) _),(HopAt.fresh _ _ _ _ _ _ _).later ((Below.refl _ _).alloc (Nat.le_refl _) _),?_,(J.out.2.alloc (by have:=J.out.2.size;omega) _).alloc (by have:=J.out.2.size;simp;omega) _⟩
  have:=Five.new (w1.alloc (.cells #[.int .i64 xk,.int .i64 xn,.int .i64 xu,.int .i64 xd,.string xid] 34)) 53 k0 k1 k2 k3 k4
  simpa[go_sem] using this
 rw[hA]
 clear hA J
 generalize w1.heap.size=gh at *
 obtain⟨-,c0,c1,c2,c3,c4⟩:=J2.out.2.2.1
 go_region_with (first|(go_at_call 25;refine Calls.mono (OP.out _) ?_;rintro e W2 ⟨rfl,hb2⟩;have S2:Hid (Str w W2 g gh ⟨xk,xn,xu,xd,xid⟩ k0 k1 k2 k3 k4):=(J2.out.later (Below.refl _ _).drew).later hb2))
 clear c0 c1 c2 c3 c4
 obtain⟨h0,h1,h2,h3,h4⟩:=S2.out.2.1.cells
 obtain⟨-,c0,c1,c2,c3,c4⟩:=S2.out.2.2.1
 by_cases hx:xk=1
 ·subst hx
  obtain⟨⟨p0,p1,p2,p3,p4,p5,p6,p7⟩,z0,z1,z2,z3,z4,z5,z6,z7⟩:=PdAt.cells (k:=0) (n:=0) (u:=0) (d:=0) (id:=⟨#[]⟩) S2.out.1
  have F:Hid (_∧_):=S2.out.fin ⟨1,xn,xu,xd,xid⟩ NR k4 ⟨#[]⟩
  unfold putP at F
  simp only at F
  go_wp2
  have hV:=V1.out (by trivial)
  refine bodyPost_ret (v := .tuple V) ?_ rfl ⟨rfl,by first|exact F.out.2|(rw[hgg];exact F.out.2)⟩
  rw[hV]
  exact res_rpd _ _ g ⟨1,xn,xu,xd,xid⟩ _ _ _ 0 (by kernel_rfl) (by kernel_rfl) F.out.1
 ·have gx:(xk == 1)=false:=by rw[beq_eq_false_iff_ne];exact hx
  go_wp2_with fail
  refine Calls.mono (TX.out _) ?_
  rintro e W3 ⟨rfl,hb3⟩
  have S3:Hid (Str w W3 g gh ⟨xk,xn,xu,xd,xid⟩ k0 k1 k2 k3 k4):=S2.out.later hb3
  clear hb3 S2 h0 h1 h2 h3 h4 c0 c1 c2 c3 c4
  obtain⟨h0,h1,h2,h3,h4⟩:=S3.out.2.1.cells
  obtain⟨-,c0,c1,c2,c3,c4⟩:=S3.out.2.2.1
  obtain⟨⟨p0,p1,p2,p3,p4,p5,p6,p7⟩,z0,z1,z2,z3,z4,z5,z6,z7⟩:=PdAt.cells (k:=0) (n:=0) (u:=0) (d:=0) (id:=⟨#[]⟩) S3.out.1
  cases ok with
  | true =>
   have F:Hid (_∧_):=S3.out.fin ⟨xk,xn,xu,xd,xid⟩ ⟨#[]⟩ k4 UT
   unfold putP at F
   simp only at F
   go_wp2
   have hV:=V3.out hx (by trivial)
   refine bodyPost_ret (v := .tuple V) ?_ rfl ⟨rfl,by first|exact F.out.2|(rw[hgg];exact F.out.2)⟩
   rw[hV]
   exact res_rpd _ _ g ⟨xk,xn,xu,xd,xid⟩ _ _ _ 0 (by kernel_rfl) (by kernel_rfl) F.out.1
  | false =>
   have F:Hid (_∧_):=S3.out.fin zh ⟨#[]⟩ ⟨#[]⟩ ⟨#[]⟩
   unfold putP zh at F
   simp only at F
   go_wp2
   have hV:=V2.out hx (by trivial)
   refine bodyPost_ret (v := .tuple V) ?_ rfl ⟨rfl,by first|exact F.out.2|(rw[hgg];exact F.out.2)⟩
   rw[hV]
   exact res_rpd _ _ g zh _ _ _ 90 (by kernel_rfl) (by kernel_rfl) F.out.1
theorem rPPeel_any (p b:ByteArray) (w:World) :
  Calls Tryz.prog 13 #[.string p,.string b] w fun e w'=>e = .returned (.tuple (ppV p b))∧Below w.heap.size w w':=by
 by_cases hb:b.size=504
 ·have zB:(b.extract 248 504).size=256:=by rw[ByteArray.size_extract];omega
  have dB:(b.extract 248 504).data.toList=b.data.toList.drop 248:=by
   rw[ByteArray.data_extract,Array.toList_extract,List.extract_eq_take_drop,List.take_of_length_le]
   rw[List.length_drop,list_sz]
   omega
  have PE:=fun w'=>rPeel_any p (b.extract 0 248) w'
  have eV:ppV p b=(match hpl p (b.extract 0 248) with
   | .error e=>#[pdz,.int .i64 e]
   | .ok (x,n,s)=>if x.k=1 then #[pdv x ⟨(n.data.toList++openl (bdy s).data.toList (b.data.toList.drop 248)).toArray⟩ (rtg s) ⟨#[]⟩,.int .i64 0]
    else (match textl (openl (bdy s).data.toList (b.data.toList.drop 248)) with
     | none=>#[pdz,.int .i64 90]
     | some t=>#[pdv x ⟨#[]⟩ (rtg s) ⟨t.toArray⟩,.int .i64 0])):=by unfold ppV;rw[if_pos hb];rfl
  rw[plV_hpl] at PE
  rw[eV]
  cases hh:hpl p (b.extract 0 248) with
  | error e =>
   rw[hh] at PE
   exact rpPeel_no p b hb w e (hpl_no_ne hh) (fun w' _=>PE w')
  | ok v =>
   obtain⟨x,n,s⟩:=v
   rw[hh] at PE
   simp only
   have OP:=fun w'=>rOpen_all (hdk s lBody 32) (b.extract 248 504) (by rw[hdk_size];show (32:Nat)+64≤_;decide) w'
   rw[opV_ok _ _ (by omega) (by omega)] at OP
   have eO:(⟨(openl (hdk s lBody 32).data.toList (b.extract 248 504).data.toList).toArray⟩:ByteArray)=⟨(openl (bdy s).data.toList (b.data.toList.drop 248)).toArray⟩:=by rw[dB];rfl
   rw[eO] at OP
   have zR:(⟨(openl (bdy s).data.toList (b.data.toList.drop 248)).toArray⟩:ByteArray).size=256:=by
    rw[ba_sz,openl_len _ _ (by rw[←dB,list_sz];omega),←dB,list_sz,zB]
   have TX:=fun w'=>rText_any ⟨(openl (bdy s).data.toList (b.data.toList.drop 248)).toArray⟩ (by omega) (by omega) w'
   have eR:n++(⟨(openl (bdy s).data.toList (b.data.toList.drop 248)).toArray⟩:ByteArray)=⟨(n.data.toList++openl (bdy s).data.toList (b.data.toList.drop 248)).toArray⟩:=by
    apply ByteArray.ext
    simp
   cases hT:textl (openl (bdy s).data.toList (b.data.toList.drop 248)) with
   | none =>
    rw[txV_no _ hT] at TX
    refine rpPeel_yes p b hb w x n s _ _ _ _ (hpl_on_size hh) zR (fun hx => ?_) (fun hx _ => ?_) (fun _ h=>absurd h (by decide)) PE OP TX
    ·rw[if_pos hx,eR];rfl
    ·rw[if_neg hx]
   | some t =>
    rw[txV_yes _ t hT] at TX
    refine rpPeel_yes p b hb w x n s _ _ _ _ (hpl_on_size hh) zR (fun hx => ?_) (fun _ h=>absurd h (by decide)) (fun hx _ => ?_) PE OP TX
    ·rw[if_pos hx,eR];rfl
    ·rw[if_neg hx];rfl
 ·have eV:ppV p b=#[pdz,.int .i64 3]:=by unfold ppV;rw[if_neg hb]
  rw[eV]
  exact rpPeel_form p b hb w
end Go.Proofs.YtgnkkjknngblbaaGreatDoor
namespace Go.Proofs.YtgnkkjknngblbaaGreatDoor
open Go.RowKit Go.Proofs.Fd Go.Proofs.Hs Go.Proofs.Cc Go.Proofs.Hd Go.Proofs.Rt Go.Proofs.Wd
set_option maxRecDepth 20000
theorem ppV_parts (p b:ByteArray):∃(k n u d:Int) (id nx tg tx:ByteArray) (e:Int),ppV p b=#[.agg #[.int .i64 k,.int .i64 n,.int .i64 u,.int .i64 d,.string id,.string nx,.string tg,.string tx],.int .i64 e]:=by
 unfold ppV
 split
 ·split
  ·exact⟨_,_,_,_,_,_,_,_,_,rfl⟩
  ·split
   ·exact⟨_,_,_,_,_,_,_,_,_,rfl⟩
   ·split
    ·exact⟨_,_,_,_,_,_,_,_,_,rfl⟩
    ·exact⟨_,_,_,_,_,_,_,_,_,rfl⟩
 ·exact⟨_,_,_,_,_,_,_,_,_,rfl⟩
set_option maxHeartbeats 1000000 in
theorem PackPeels_walk (CM:Hid PMakeC) (CL:Hid PPeelC) (p b:ByteArray) (zp:Hid (p.size≤140737488355328)) (zb:Hid (b.size≤140737488355328)) (w:World) (hK:Hid (Kh w)) :
  Calls Tryz.prog 4 #[.string p,.string b] w fun e w'=>e = .returned (.bool true)∧Below w.heap.size w w':=by
 have WK:Hid (∀w,Kh w→Calls Tryz.prog 11 #[] w fun e w'=>e = .returned (.bool true)∧Below w.heap.size w w'):=fun w h=>works9_any CM CL w h
 obtain⟨k,n,u,d,id,nx,tg,tx,ee,hV⟩:=ppV_parts p b
 have P1:Hid (∀w,Kh w→Calls Tryz.prog 12 #[.string p,.string b] w fun e w'=>e = .returned (.tuple #[.agg #[.int .i64 k,.int .i64 n,.int .i64 u,.int .i64 d,.string id,.string nx,.string tg,.string tx],.int .i64 ee])∧Below w.heap.size w w'):=fun w' hk=>by
  have:=CL.out p b w' zp zb hk
  rw[hV] at this
  exact this
 have P2:Hid (∀w,Calls Tryz.prog 13 #[.string p,.string b] w fun e w'=>e = .returned (.tuple #[.agg #[.int .i64 k,.int .i64 n,.int .i64 u,.int .i64 d,.string id,.string nx,.string tg,.string tx],.int .i64 ee])∧Below w.heap.size w w'):=fun w'=>by
  have:=rPPeel_any p b w'
  rw[hV] at this
  exact this
 have Ikd:(id.toList == id.toList)=true:=by simp
 have Ikn:(nx.toList == nx.toList)=true:=by simp
 have Ikg:(tg.toList == tg.toList)=true:=by simp
 have Ikx:(tx.toList == tx.toList)=true:=by simp
 clear CM CL zp zb hV
 go_enter Tryz.func4, Tryz.ntmps4
 go_wp2_with fail
 refine Calls.mono (P1.out _ hK.out) ?_
 rintro e w1 ⟨rfl,hb1⟩
 have B1:Hid (Below w.heap.size w w1):=hb1
 clear hb1 P1
 go_wp2_with fail
 have J:Hid (PdAt (w1.alloc (.cells #[.int .i64 k,.int .i64 n,.int .i64 u,.int .i64 d,.string id,.string nx,.string tg,.string tx] 36)) w1.heap.size ⟨k,n,u,d,id⟩ nx tg tx∧Below w.heap.size w (w1.alloc (.cells #[.int .i64 k,.int .i64 n,.int .i64 u,.int .i64 d,.string id,.string nx,.string tg,.string tx] 36))) :=
  ⟨PdAt.new w1 36 k n u d id nx tg tx,B1.out.alloc B1.out.size _⟩
 generalize w1.alloc (.cells #[.int .i64 k,.int .i64 n,.int .i64 u,.int .i64 d,.string id,.string nx,.string tg,.string tx] 36)=A at *
 clear B1
 generalize w1.heap.size=g at *
 refine Calls.mono (P2.out _) ?_
 rintro e w2 ⟨rfl,hb2⟩
 have J2:Hid (PdAt w2 g ⟨k,n,u,d,id⟩ nx tg tx∧Below w.heap.size w w2):=⟨J.out.1.later hb2,chain J.out.2 hb2⟩
 clear hb2 P2 J
 obtain⟨⟨a0,a1,a2,a3,a4,a5,a6,a7⟩,-⟩:=J2.out.1.cells
 have l1:=J2.out.1.lt
 go_wp2_with fail
 have B3:Hid (Below w.heap.size w (w2.alloc (.cells #[.int .i64 k,.int .i64 n,.int .i64 u,.int .i64 d,.string id,.string nx,.string tg,.string tx] 36))):=J2.out.2.alloc J2.out.2.size _
 refine Calls.mono (WK.out _ (hK.out.later B3.out)) ?_
 rintro e w3 ⟨rfl,hb3⟩
 have B4:Hid (Below w.heap.size w w3):=chain B3.out hb3
 clear hb3 J2 WK a0 a1 a2 a3 a4 a5 a6 a7 B3
 go_wp2
 go_ret
 exact⟨rfl,B4.out⟩
end Go.Proofs.YtgnkkjknngblbaaGreatDoor
namespace Go.Proofs.YtgnkkjknngblbaaGreatDoor
open Go.RowKit Go.Proofs.Fd Go.Proofs.Hs Go.Proofs.Cc Go.Proofs.Hd Go.Proofs.Rt Go.Proofs.Wd
set_option maxRecDepth 20000
set_option maxHeartbeats 1000000 in
theorem payload_any (CW:Hid WrapC) (CS:Hid ShutC) (t:ByteArray) (ht:t.size≤222) (ss:List ByteArray) (L:Nat) (hL:ss.length=L+1) (l4:L≤4) (ka:Option Addr) (kc:Nat) (_:L+1≤kc) (w:World) (hK:Hid (Kh w)) (hk:Hid (KeysAt w (.slice ka (L+1) kc) ss)) :
  Calls Tryz.prog 17 #[.string t,.slice ka (L+1) kc] w fun e w'=>e = .returned (.string (pbd ss t 0))∧Below w.heap.size w w':=by
 have WP:Hid (∀(g:Nat) (k0 k1 k3 k4:ByteArray) (w:World),Six w g k0 k1 (hdk (nth ss L) lBody 32) k3 k4 ⟨#[]⟩→Kh w→Calls Tryz.prog 32 #[.pointer (some ⟨g,0,none⟩),.string t] w fun e w'=>e = .returned (.tuple #[])∧Six w' g k0 k1 (hdk (nth ss L) lBody 32) k3 k4 (pbd ss t L)∧Below g w w'):=fun g k0 k1 k3 k4 w h hK =>
  pwrap_any g k0 k1 _ k3 k4 _ t _ w h hK (fun w hw=>by
   rw[←wrV_pbd ss t L hL.symm ht]
   exact CW.out _ _ _ w (by rw[hdk_size];show (32:Nat)+64≤_;decide) (by show t.size≤_;omega) hw)
 have SP:Hid (∀(i:Nat) (g:Nat) (k0 k1 k3 k4:ByteArray) (w:World),i < L+1→Six w g k0 k1 (hdk (nth ss i) lBody 32) k3 k4 (pbd ss t (i+1))→Kh w→Calls Tryz.prog 33 #[.pointer (some ⟨g,0,none⟩)] w fun e w'=>e = .returned (.tuple #[])∧Six w' g k0 k1 (hdk (nth ss i) lBody 32) k3 k4 (pbd ss t i)∧Below g w w'):=fun i g k0 k1 k3 k4 w hi h hK =>
  pshut_any g k0 k1 _ k3 k4 _ _ w h hK (fun w hw=>by
   rw[←shV_pbd ss t i (by omega) ht]
   exact CS.out _ _ w (by rw[hdk_size];show (32:Nat)+64≤_;decide) (by show (pbd ss t (i+1)).size≤_;rw[pbd_size _ _ _ ht];decide) hw)
 have KC:Hid (∀w' i,Below w.heap.size w w'→i < L+1→∃b o,ka=some ⟨b,o,none⟩
   ∧ w'.cell? ⟨b,o+i*5,none⟩=some (.string (hdk (nth ss i) lFlow 32))∧w'.cell? ⟨b,o+i*5+1,none⟩=some (.string (hdk (nth ss i) lMac 32))∧w'.cell? ⟨b,o+i*5+2,none⟩=some (.string (hdk (nth ss i) lBody 32))
   ∧ w'.cell? ⟨b,o+i*5+3,none⟩=some (.string (bld (nth ss i)))∧w'.cell? ⟨b,o+i*5+4,none⟩=some (.string (hdk (nth ss i) lTag 16))):=fun w' i hb hi=>by
  obtain⟨a,c,e,-,-,kcs⟩:=hk.out
  rw[hL] at e
  cases e
  obtain⟨b,o,e,c0,c1,c2,c3,c4⟩:=kcs i (by omega)
  exact⟨b,o,e,cell_later hb c0,cell_later hb c1,cell_later hb c2,cell_later hb c3,cell_later hb c4⟩
 clear CW CS hk
 obtain⟨b1,o1,hka,c0,c1,c2,c3,c4⟩:=KC.out w L (Below.refl _ _) (by omega)
 have n1:IntKind.i64.wrap (((L+1:Nat):Int) - 1)=(L:Int):=by rw[IntKind.wrap_i64];omega
 have n2:wrap64 (((L+1:Nat):Int) - 1)=(L:Int):=by unfold wrap64;omega
 have n1':IntKind.i64.wrap ((L:Int)+1 - 1)=(L:Int):=by rw[IntKind.wrap_i64];omega
 have n2':wrap64 ((L:Int)+1 - 1)=(L:Int):=by unfold wrap64;omega
 have n3:(L:Int) < ((L+1:Nat):Int):=by omega
 have n3':(L:Int) < (L:Int)+1:=by omega
 subst hka
 go_enter Tryz.func17, Tryz.ntmps17
 go_wp2_with fail
 obtain⟨A,hA⟩:∃A,w.alloc (.cells #[.string (hdk (nth ss L) lFlow 32),.string (hdk (nth ss L) lMac 32),.string (hdk (nth ss L) lBody 32),.string (bld (nth ss L)),.string (hdk (nth ss L) lTag 16),.string ⟨#[]⟩] 58)=A:=⟨_,rfl⟩
 have J:Hid (Six A w.heap.size (hdk (nth ss L) lFlow 32) (hdk (nth ss L) lMac 32) (hdk (nth ss L) lBody 32) (bld (nth ss L)) (hdk (nth ss L) lTag 16) ⟨#[]⟩∧Below w.heap.size w A):=by
  rw[←hA]
  exact⟨Six.new _ _ _ _ _ _ _ _,(Below.refl _ _).alloc (Nat.le_refl _) _⟩
 rw[hA]
 clear hA c0 c1 c2 c3 c4
 refine Calls.mono (WP.out _ _ _ _ _ _ J.out.1 (hK.out.later J.out.2)) ?_
 rintro e w1 ⟨rfl,h1,hb1⟩
 have J1:Hid (∃k0 k1 k2 k3 k4,Six w1 w.heap.size k0 k1 k2 k3 k4 (pbd ss t L)∧Below w.heap.size w w1):=⟨_,_,_,_,_,h1,J.out.2.trans hb1⟩
 clear h1 hb1 J WP
 obtain⟨g,hg⟩:∃g,w.heap.size=g:=⟨_,rfl⟩
 have HG:Hid (w.heap.size=g):=hg
 rw[hg] at J1 ⊢
 clear hg
 go_wp2_with fail
 go_loopw [7] (fun iv wr=>∃j:Nat,j≤L∧iv = .int .i64 ((j:Int) - 1)∧Hid (∃k0 k1 k2 k3 k4,Six wr g k0 k1 k2 k3 k4 (pbd ss t j)∧Below g w wr)) (fun iv _=>(intOf iv+1).toNat)
 case atStart=>exact⟨L,Nat.le_refl _,by go_num,J1.out⟩
 case round =>
  obtain⟨j,hj,rfl,I⟩:=hrel
  clear J1
  obtain⟨y0,y1,y2,y3,y4,hsix,hbel⟩:=I.out
  have I2:Hid (Six wr g y0 y1 y2 y3 y4 (pbd ss t j)∧Below g w wr):=⟨hsix,hbel⟩
  clear I hsix hbel
  obtain⟨fz,d0,d1,d2,d3,d4,d5⟩:=I2.out.1
  have f0:=fz 0
  have f1:=fz 1
  have f2:=fz 2
  have f3:=fz 3
  have f4:=fz 4
  have gl:=I2.out.1.lt
  clear fz
  cases j with
  | zero =>
   have q1:¬(0:Int)≤((0:Nat):Int) - 1:=by omega
   go_wp2
   go_ret
   exact⟨rfl,by have:=I2.out.2;rw[←HG.out] at this;exact this⟩
  | succ i =>
   have q0:((i+1:Nat):Int) - 1=(i:Int):=by omega
   rw[q0]
   have q1:(0:Int)≤(i:Int):=by omega
   have BW:Below w.heap.size w wr:=by rw[HG.out];exact I2.out.2
   obtain⟨b2,o2,he,c0,c1,c2,c3,c4⟩:=KC.out wr i BW (by omega)
   cases he
   have n4:(i:Int) < ((L+1:Nat):Int):=by omega
   have n4':(i:Int) < (L:Int)+1:=by omega
   have SX:Hid (_∧_):=And.intro (I2.out.1.put5 (hdk (nth ss i) lFlow 32) (hdk (nth ss i) lMac 32) (hdk (nth ss i) lBody 32) (bld (nth ss i)) (hdk (nth ss i) lTag 16)) (below_five I2.out.2 (Nat.le_refl g) (.string (hdk (nth ss i) lFlow 32)) (.string (hdk (nth ss i) lMac 32)) (.string (hdk (nth ss i) lBody 32)) (.string (bld (nth ss i))) (.string (hdk (nth ss i) lTag 16)))
   have gne:¬g=b1:=by
    obtain⟨b3,o3,he3,e0,-⟩:=KC.out w i (Below.refl _ _) (by omega)
    cases he3
    have:=World.block_lt_of_cell? _ _ e0
    have:=HG.out
    simp at *
    omega
   have gne2:¬b1=g:=fun h=>gne h.symm
   have GK:Hid (1 < g):=by rw[←HG.out];exact hK.out.1
   go_wp2_with fail
   refine Calls.mono (SP.out i _ _ _ _ _ _ (by omega) SX.out.1 (Kh.above hK.out GK.out SX.out.2)) ?_
   rintro e w3 ⟨rfl,h3,hb3⟩
   have J3:Hid (∃k0 k1 k2 k3 k4,Six w3 g k0 k1 k2 k3 k4 (pbd ss t i)∧Below g w w3):=⟨_,_,_,_,_,h3,SX.out.2.trans hb3⟩
   clear h3 hb3 SX I2 c0 c1 c2 c3 c4 d0 d1 d2 d3 d4 d5
   go_wp2
   exact⟨⟨i,by omega,by go_num,J3.out⟩,by simp[intOf]⟩
end Go.Proofs.YtgnkkjknngblbaaGreatDoor
namespace Go.Proofs.YtgnkkjknngblbaaGreatDoor
open Go.RowKit Go.Proofs.Fd Go.Proofs.Hs Go.Proofs.Cc Go.Proofs.Hd Go.Proofs.Rt Go.Proofs.Wd
set_option maxRecDepth 20000
set_option maxHeartbeats 1000000 in
theorem pMake_no (seed:ByteArray) (a:Option Addr) (n cap:Nat) (t:ByteArray) (b:Option Addr) (m cap2:Nat) (w:World) (H:ByteArray) (e:Int) (he:¬e=0)
  (RM:Hid (Calls Tryz.prog 16 #[.string seed,.slice a n cap,.slice b m cap2] w fun x w'=>∃v,x = .returned (.tuple #[.string H,v,.int .i64 e])∧Below w.heap.size w w')) :
  Calls Tryz.prog 8 #[.string seed,.slice a n cap,.string t,.slice b m cap2] w fun x w'=>x = .returned (.tuple #[.string ⟨#[]⟩,.int .i64 e])∧Below w.heap.size w w':=by
 go_enter Tryz.func8, Tryz.ntmps8
 go_wp2_with fail
 refine Calls.mono RM.out ?_
 rintro x w1 ⟨v,rfl,hb1⟩
 have B1:Hid (Below w.heap.size w w1):=hb1
 clear hb1 RM
 go_wp2
 go_ret2
 exact⟨rfl,B1.out⟩
set_option maxHeartbeats 1000000 in
theorem pMake_long (seed:ByteArray) (a:Option Addr) (n cap:Nat) (t:ByteArray) (b:Option Addr) (m cap2:Nat) (w:World) (H:ByteArray) (ht:222 < t.size)
  (RM:Hid (Calls Tryz.prog 16 #[.string seed,.slice a n cap,.slice b m cap2] w fun x w'=>∃v,x = .returned (.tuple #[.string H,v,.int .i64 0])∧Below w.heap.size w w')) :
  Calls Tryz.prog 8 #[.string seed,.slice a n cap,.string t,.slice b m cap2] w fun x w'=>x = .returned (.tuple #[.string ⟨#[]⟩,.int .i64 2])∧Below w.heap.size w w':=by
 have gi:(222:Int) < (t.size:Int):=by omega
 go_enter Tryz.func8, Tryz.ntmps8
 go_wp2_with fail
 refine Calls.mono RM.out ?_
 rintro x w1 ⟨v,rfl,hb1⟩
 have B1:Hid (Below w.heap.size w w1):=hb1
 clear hb1 RM
 go_wp2_with fail
 refine Calls.mono (room_any _) ?_
 rintro x w2 ⟨rfl,rfl⟩
 go_wp2
 go_ret2
 exact⟨rfl,B1.out⟩
set_option maxHeartbeats 1000000 in
theorem pMake_ok (CW:Hid WrapC) (CS:Hid ShutC) (seed:ByteArray) (a:Option Addr) (n cap:Nat) (t:ByteArray) (b:Option Addr) (m cap2:Nat) (w:World) (hK:Hid (Kh w)) (H:ByteArray) (ss:List ByteArray) (ht:t.size≤222) (zH:H.size=248) (hl:1≤ss.length∧ss.length≤5)
  (RM:Hid (Calls Tryz.prog 16 #[.string seed,.slice a n cap,.slice b m cap2] w fun x w'=>∃v,x = .returned (.tuple #[.string H,v,.int .i64 0])∧KeysAt w' v ss∧Below w.heap.size w w')) :
  Calls Tryz.prog 8 #[.string seed,.slice a n cap,.string t,.slice b m cap2] w fun x w'=>x = .returned (.tuple #[.string (H++pbd ss t 0),.int .i64 0])∧Below w.heap.size w w':=by
 have gi:¬(222:Int) < (t.size:Int):=by omega
 obtain⟨L,hL⟩:∃L,ss.length=L+1:=⟨ss.length - 1,by omega⟩
 have AD:∀w,(Op.stringOp .add H (pbd ss t 0)).run Tryz.prog w = .ok (.string (H++pbd ss t 0)) w:=fun w=>run_string_add_sum _ _ _ (by rw[zH,pbd_size _ _ _ ht];decide)
 have PL:Hid (∀(ka:Option Addr) (kc:Nat) (w:World),L+1≤kc→Kh w→KeysAt w (.slice ka (L+1) kc) ss→Calls Tryz.prog 17 #[.string t,.slice ka (L+1) kc] w fun e w'=>e = .returned (.string (pbd ss t 0))∧Below w.heap.size w w'):=fun ka kc w hc h hk =>
  payload_any CW CS t ht ss L hL (by omega) ka kc hc w h hk
 generalize H++pbd ss t 0=R at *
 generalize pbd ss t 0=B at *
 clear CW CS
 go_enter Tryz.func8, Tryz.ntmps8
 go_wp2_with fail
 refine Calls.mono RM.out ?_
 rintro x w1 ⟨v,rfl,⟨ka,kc,rfl,kl,kx,kcs⟩,hb1⟩
 have B1:Hid (Below w.heap.size w w1):=hb1
 have KY:Hid (KeysAt w1 (.slice ka (L+1) kc) ss):=⟨ka,kc,by rw[hL],kl,kx,kcs⟩
 rw[hL] at kl
 rw[hL]
 clear hb1 RM kcs
 go_wp2_with fail
 refine Calls.mono (room_any _) ?_
 rintro x w2 ⟨rfl,rfl⟩
 go_wp2_with fail
 refine Calls.mono (PL.out ka kc _ kl (hK.out.later B1.out) KY.out) ?_
 rintro x w3 ⟨rfl,hb3⟩
 have B3:Hid (Below w.heap.size w w3):=chain B1.out hb3
 clear hb3 PL KY B1
 go_wp2
 go_ret2
 exact⟨rfl,B3.out⟩
theorem pmake_of (CM:Hid MakeC) (CW:Hid WrapC) (CS:Hid ShutC):PMakeC:=fun seed a pts n cap t b hs m cap2 w hl hb zs zp hid zt hK hc hp=>by
 have M:=CM.out seed a pts n cap b hs m cap2 w hl hb zs zp hid hK hc hp
 by_cases h0:mkE seed pts hs=0
 ·rw[h0] at M
  rcases Nat.lt_or_ge 222 t.size with ht|ht
  ·obtain⟨e1,e2⟩:=pm_long seed pts t hs h0 ht
   rw[e1,e2]
   exact pMake_long seed a n cap t b m cap2 w _ ht (M.mono fun x w' ⟨v,q1,_,q3⟩=>⟨v,q1,q3⟩)
  ·obtain⟨e1,e2⟩:=pm_parts seed pts t hs h0 ht
   rw[e1,e2]
   obtain⟨z1,z2,z3⟩:=mk_ok seed pts hs h0
   exact pMake_ok CW CS seed a n cap t b m cap2 w hK _ _ ht z1 ⟨z2,z3⟩ M
 ·obtain⟨e1,e2⟩:=pm_no seed pts t hs h0
  rw[e1,e2]
  exact pMake_no seed a n cap t b m cap2 w _ _ h0 (M.mono fun x w' ⟨v,q1,_,q3⟩=>⟨v,q1,q3⟩)
end Go.Proofs.YtgnkkjknngblbaaGreatDoor
namespace Go.Proofs.YtgnkkjknngblbaaGreatDoor
open Go.RowKit Go.Proofs.Fd Go.Proofs.Hs Go.Proofs.Cc Go.Proofs.Hd Go.Proofs.Rt Go.Proofs.Wd
set_option maxRecDepth 20000
set_option maxHeartbeats 400000 in
theorem pPeel_no (p b:ByteArray) (hb:b.size=504) (w:World) (E:Int) (hE:¬E=0)
  (PE:Hid (∀w',Below w.heap.size w w'→Calls Tryz.prog 21 #[.string p,.string (b.extract 0 248)] w' fun e w''=>e = .returned (.tuple #[hv zh,.string ⟨#[]⟩,kz,.int .i64 E])∧Below w'.heap.size w' w'')) :
  Calls Tryz.prog 12 #[.string p,.string b] w fun e w'=>e = .returned (.tuple #[pdz,.int .i64 E])∧Below w.heap.size w w':=by
 have g1:(b.size:Int)=504:=by omega
 obtain⟨H,hH⟩:∃H,b.extract 0 248=H:=⟨_,rfl⟩
 rw[hH] at PE
 unfold hv zh kz at PE
 simp only at PE
 go_enter Tryz.func12, Tryz.ntmps12
 go_wp2_with fail
 refine Calls.mono (PE.out _ ((Below.refl _ _).alloc (Nat.le_refl _) _)) ?_
 rintro e w1 ⟨rfl,hb1⟩
 have J:Hid (PdAt w1 w.heap.size zh ⟨#[]⟩ ⟨#[]⟩ ⟨#[]⟩∧Below w.heap.size w w1):=⟨(PdAt.zero w).later hb1,chain ((Below.refl _ _).alloc (Nat.le_refl _) _) hb1⟩
 clear hb1 PE
 generalize hgg:w.heap.size=g at *
 have F0:PdAt (putP w1 g zh ⟨#[]⟩ ⟨#[]⟩ ⟨#[]⟩) g zh ⟨#[]⟩ ⟨#[]⟩ ⟨#[]⟩∧Below g w (putP w1 g zh ⟨#[]⟩ ⟨#[]⟩ ⟨#[]⟩):=⟨J.out.1.put _ _ _ _,below_putP J.out.2 (Nat.le_refl _) _ _ _ _⟩
 have F:Hid (PdAt (((putP w1 g zh ⟨#[]⟩ ⟨#[]⟩ ⟨#[]⟩).alloc (.cells #[.int .i64 0,.int .i64 0,.int .i64 0,.int .i64 0,.string ⟨#[]⟩] 34)).alloc (.cells #[.string ⟨#[]⟩,.string ⟨#[]⟩,.string ⟨#[]⟩,.string ⟨#[]⟩,.string ⟨#[]⟩] 53)) g zh ⟨#[]⟩ ⟨#[]⟩ ⟨#[]⟩∧Below g w (((putP w1 g zh ⟨#[]⟩ ⟨#[]⟩ ⟨#[]⟩).alloc (.cells #[.int .i64 0,.int .i64 0,.int .i64 0,.int .i64 0,.string ⟨#[]⟩] 34)).alloc (.cells #[.string ⟨#[]⟩,.string ⟨#[]⟩,.string ⟨#[]⟩,.string ⟨#[]⟩,.string ⟨#[]⟩] 53))) :=
  ⟨(F0.1.later ((Below.refl _ _).alloc (Nat.le_refl _) _)).later ((Below.refl _ _).alloc (Nat.le_refl _) _),(F0.2.alloc (Nat.le_of_lt F0.1.lt) _).alloc (by have:=F0.1.lt;simp;omega) _⟩
 clear F0
 unfold putP zh at F
 obtain⟨⟨h0,h1,h2,h3,h4,h5,h6,h7⟩,z0,z1,z2,z3,z4,z5,z6,z7⟩:=PdAt.cells (k:=0) (n:=0) (u:=0) (d:=0) (id:=⟨#[]⟩) J.out.1
 have lG:=J.out.1.lt
 have lN:¬g=w1.heap.size:=by omega
 have lN1:¬g=w1.heap.size+1:=by omega
 go_wp2
 refine bodyPost_ret (v := .tuple #[pdz,.int .i64 E]) ?_ rfl ⟨rfl,by rw[hgg];exact F.out.2⟩
 exact res_pd _ _ g zh _ _ _ E (by kernel_rfl) (by kernel_rfl) F.out.1
def Stp (w W:World) (g gh gi:Nat) (x:Hp) (k0 k1 k2 k3 k4 k5:ByteArray):Prop:=PdAt W g zh ⟨#[]⟩ ⟨#[]⟩ ⟨#[]⟩∧HopAt W gh x∧Six W gi k0 k1 k2 k3 k4 k5∧Below g w W∧g < gi∧gh < gi∧g < gh ∧ 1 < g
theorem Stp.later {w W W':World} {g gh gi:Nat} {x:Hp} {k0 k1 k2 k3 k4 k5:ByteArray} (h:Stp w W g gh gi x k0 k1 k2 k3 k4 k5) (hg:g≤W.heap.size) (hb:Below W.heap.size W W'):Stp w W' g gh gi x k0 k1 k2 k3 k4 k5 :=
 ⟨h.1.later hb,h.2.1.later hb,h.2.2.1.later hb,h.2.2.2.1.trans (hb.mono hg),h.2.2.2.2⟩
theorem Stp.opened {w W W':World} {g gh gi:Nat} {x:Hp} {k0 k1 k2 k3 k4 k5 R:ByteArray} (h:Stp w W g gh gi x k0 k1 k2 k3 k4 k5) (hs:Six W' gi k0 k1 k2 k3 k4 R) (hb:Below gi W W'):Stp w W' g gh gi x k0 k1 k2 k3 k4 R :=
 ⟨h.1.above hb h.2.2.2.2.1,h.2.1.above hb h.2.2.2.2.2.1,hs,h.2.2.2.1.trans (hb.mono (Nat.le_of_lt h.2.2.2.2.1)),h.2.2.2.2⟩
theorem Stp.opened' {w W W':World} {g gh gi:Nat} {x:Hp} {k0 k1 k2 k3 k4 k5 y0 y1 y2 y3 y4 y5:ByteArray} (h:Stp w W g gh gi x k0 k1 k2 k3 k4 k5) (hs:Six W' gi y0 y1 y2 y3 y4 y5) (hb:Below gi W W'):Stp w W' g gh gi x y0 y1 y2 y3 y4 y5 :=
 ⟨h.1.above hb h.2.2.2.2.1,h.2.1.above hb h.2.2.2.2.2.1,hs,h.2.2.2.1.trans (hb.mono (Nat.le_of_lt h.2.2.2.2.1)),h.2.2.2.2⟩
theorem Five.above {g:Nat} {w w':World} {b:Nat} {k0 k1 k2 k3 k4:ByteArray} (h:Five w b k0 k1 k2 k3 k4) (hb:Below g w w') (hlt:b < g):Five w' b k0 k1 k2 k3 k4:=by
 obtain⟨f,h0,h1,h2,h3,h4⟩:=h
 have e:∀j,w'.cell? ⟨b,j,none⟩=w.cell? ⟨b,j,none⟩:=fun j=>hb.cell hlt
 have e2:∀j,w'.frozen? ⟨b,j,none⟩=w.frozen? ⟨b,j,none⟩:=fun j=>hb.frozen hlt
 exact⟨fun j=>by rw[e2,f],by rw[e,h0],by rw[e,h1],by rw[e,h2],by rw[e,h3],by rw[e,h4]⟩
theorem Stp.kh {w W:World} {g gh gi:Nat} {x:Hp} {k0 k1 k2 k3 k4 k5:ByteArray} (h:Stp w W g gh gi x k0 k1 k2 k3 k4 k5) (hK:Kh w):Kh W:=Kh.above hK h.2.2.2.2.2.2.2 h.2.2.2.1
theorem Stp.fin {w W:World} {g gh gi:Nat} {x:Hp} {k0 k1 k2 k3 k4 k5:ByteArray} (h:Stp w W g gh gi x k0 k1 k2 k3 k4 k5) (y:Hp) (n t s:ByteArray):PdAt (putP W g y n t s) g y n t s∧Below g w (putP W g y n t s) :=
 ⟨h.1.put y n t s,below_putP h.2.2.2.1 (Nat.le_refl _) y n t s⟩
def oph0:Oper:={ dst:=some 29,op:=Go.Op.load 53 (Go.Operand.tmp 8),type := 53, pos := "pack.go:36", after:=#[],guard:=none }
def oph1:Oper:={ dst:=some 30,op:=Go.Op.move (Go.Operand.tmp 1),type := 9, pos := "pack.go:36", after:=#[],guard:=none }
def oph2:Oper:={ dst:=some 31,op:=Go.Op.slice 9 (Go.Operand.tmp 30) (some (Go.Operand.const (Go.Value.int Go.IntKind.i64 248))) none none,type := 9, pos := "pack.go:36", after:=#[{ on:=1,ground:=Go.Ground.data }],guard:=none }
def oph3:Oper:={ dst:=some 32,op:=Go.Op.build 58 #[(0,Go.Operand.tmp 29),(1,Go.Operand.tmp 31)],type := 58, pos := "pack.go:36", after:=#[{ on:=0,ground:=Go.Ground.data },{ on:=2,ground:=Go.Ground.data }],guard:=none }
def oph4:Oper:={ dst:=some 10,op:=Go.Op.alloc 58, type:=0,pos := "pack.go:36", after:=#[],guard:=none }
def oph5:Oper:={ dst:=none,op:=Go.Op.store 58 (Go.Operand.tmp 10) (Go.Operand.tmp 32),type:=0,pos := "pack.go:36", after:=#[{ on:=4,ground:=Go.Ground.data },{ on:=3,ground:=Go.Ground.data },{ on:=0,ground:=Go.Ground.phase },{ on:=1,ground:=Go.Ground.phase },{ on:=2,ground:=Go.Ground.phase },{ on:=3,ground:=Go.Ground.phase },{ on:=4,ground:=Go.Ground.phase }],guard:=none }
set_option maxHeartbeats 1000000 in
theorem pPeel_yes (p b:ByteArray) (hb:b.size=504) (w:World) (hK:Hid (Kh w)) (x:Hp) (n s R UT:ByteArray) (UE:Int) (V:Array Value) (zn:n.size≤248) (zR:R.size=256)
  (V1:Hid (x.k=1→V=#[pdv x (n++R) (hdk s lTag 16) ⟨#[]⟩,.int .i64 0])) (V2:Hid (x.k≠1→UE≠0→V=#[pdz,.int .i64 UE])) (V3:Hid (x.k≠1→UE=0→V=#[pdv x ⟨#[]⟩ (hdk s lTag 16) UT,.int .i64 0]))
  (PE:Hid (∀w',Kh w'→Calls Tryz.prog 21 #[.string p,.string (b.extract 0 248)] w' fun e w''=>e = .returned (.tuple #[hv x,.string n,kv s,.int .i64 0])∧Below w'.heap.size w' w''))
  (OP:Hid (∀w',Kh w'→Calls Tryz.prog 56 #[.string (hdk s lBody 32),.string (b.extract 248 504)] w' fun e w''=>e = .returned (.tuple #[.string R,.int .i64 0])∧Below w'.heap.size w' w''))
  (UW:Hid (∀w',Kh w'→Calls Tryz.prog 57 #[.string (hdk s lBody 32),.string (b.extract 248 504)] w' fun e w''=>e = .returned (.tuple #[.string UT,.int .i64 UE])∧Below w'.heap.size w' w'')) :
  Calls Tryz.prog 12 #[.string p,.string b] w fun e w'=>e = .returned (.tuple V)∧Below w.heap.size w w':=by
 have g1:(b.size:Int)=504:=by omega
 have AD:∀w,(Op.stringOp .add n R).run Tryz.prog w = .ok (.string (n++R)) w:=fun w=>run_string_add_sum _ _ _ (by omega)
 obtain⟨H,hH⟩:∃H,b.extract 0 248=H:=⟨_,rfl⟩
 obtain⟨B,hB⟩:∃B,b.extract 248 504=B:=⟨_,rfl⟩
 rw[hH] at PE
 rw[hB] at OP UW
 have e5:b.extract 248 b.size=B:=by rw[hb];exact hB
 generalize n++R=NR at *
 obtain⟨xk,xn,xu,xd,xid⟩:=x
 simp only at V1 V2 V3
 unfold hv kv at PE
 generalize hdk s lFlow 32=k0 at *
 generalize hdk s lMac 32=k1 at *
 generalize hdk s lBody 32=k2 at *
 generalize bld s=k3 at *
 generalize hdk s lTag 16=k4 at *
 simp only at PE
 have OC:Hid (∀(g:Nat) (w:World),Six w g k0 k1 k2 k3 k4 B→Kh w→Calls Tryz.prog 22 #[.pointer (some ⟨g,0,none⟩)] w fun e w'=>e = .returned (.tuple #[])∧Six w' g k0 k1 k2 k3 k4 R∧Below g w w'):=fun g w h1 h2=>popen_any g k0 k1 k2 k3 k4 B R w h1 h2 OP
 have TC:Hid (∀(g:Nat) (w:World),Six w g k0 k1 k2 k3 k4 B→Kh w→Calls Tryz.prog 23 #[.pointer (some ⟨g,0,none⟩)] w fun e w'=>e = .returned (.tuple #[.string UT,.int .i64 UE])∧Below w.heap.size w w'):=fun g w h1 h2=>ptext_any g k0 k1 k2 k3 k4 B UT UE w h1 h2 UW
 clear OP UW zn zR
 go_enter Tryz.func12, Tryz.ntmps12
 go_wp2_with fail
 refine Calls.mono (PE.out _ (hK.out.alloc _)) ?_
 rintro e w1 ⟨rfl,hb1⟩
 have J:Hid (PdAt w1 w.heap.size zh ⟨#[]⟩ ⟨#[]⟩ ⟨#[]⟩∧Below w.heap.size w w1∧w.heap.size < w1.heap.size ∧ 1 < w.heap.size):=⟨(PdAt.zero w).later hb1,chain ((Below.refl _ _).alloc (Nat.le_refl _) _) hb1,by have:=hb1.size;simp at this;omega,hK.out.1⟩
 clear hb1 PE
 generalize hgg:w.heap.size=g at *
 go_wp2_with fail
 obtain⟨A,hA⟩:∃A,(w1.alloc (.cells #[.int .i64 xk,.int .i64 xn,.int .i64 xu,.int .i64 xd,.string xid] 34)).alloc (.cells #[.string k0,.string k1,.string k2,.string k3,.string k4] 53)=A:=⟨_,rfl⟩
 have J2:Hid (PdAt A g zh ⟨#[]⟩ ⟨#[]⟩ ⟨#[]⟩∧HopAt A w1.heap.size ⟨xk,xn,xu,xd,xid⟩∧Five A (w1.heap.size+1) k0 k1 k2 k3 k4∧Below g w A∧g < w1.heap.size∧A.heap.size=w1.heap.size+2 ∧ 1 < g):=by
  rw[←hA]
  refine⟨(J.out.1.later ((Below.refl _ _).alloc (Nat.le_refl _) _)).later ((Below.refl _ _).alloc (Nat.le_refl _) _),(HopAt.fresh _ _ _ _ _ _ _).later ((Below.refl _ _).alloc (Nat.le_refl _) _),?_,(J.out.2.1.alloc (by have:=J.out.2.1.size;omega) _).alloc (by have:=J.out.2.1.size;simp;omega) _,J.out.2.2.1,by simp[go_sem],J.out.2.2.2⟩
  have:=Five.new (w1.alloc (.cells #[.int .i64 xk,.int .i64 xn,.int .i64 xu,.int .i64 xd,.string xid] 34)) 53 k0 k1 k2 k3 k4
  simpa[go_sem] using this
 rw[hA]
 clear hA J
 generalize w1.heap.size=gh at *
 obtain⟨D0,hD0⟩:∃D,A.drew=D:=⟨_,rfl⟩
 have J3:Hid (PdAt D0 g zh ⟨#[]⟩ ⟨#[]⟩ ⟨#[]⟩∧HopAt D0 gh ⟨xk,xn,xu,xd,xid⟩∧Five D0 (gh+1) k0 k1 k2 k3 k4∧Below g w D0∧g < gh∧D0.heap.size=gh+2 ∧ 1 < g):=by
  have hd:Below A.heap.size A D0:=by rw[←hD0];exact (Below.refl _ _).drew
  have hz:D0.heap.size=A.heap.size:=by rw[←hD0];simp[go_sem]
  exact⟨J2.out.1.later hd,J2.out.2.1.later hd,J2.out.2.2.1.later hd,J2.out.2.2.2.1.trans (hd.mono (by have:=J2.out.2.2.2.2;omega)),J2.out.2.2.2.2.1,by rw[hz];exact J2.out.2.2.2.2.2.1,J2.out.2.2.2.2.2.2⟩
 have HS0:Five A.drew (gh+1) k0 k1 k2 k3 k4:=by rw[hD0];exact J3.out.2.2.1
 clear J2
 refine wp_region_noPanic ?_
 refine wp_region_held_drew (S:=fun w'=>Five w' (gh+1) k0 k1 k2 k3 k4) (by kernel_rfl) (HS0) (fun hHeld => ?_)
 refine wpAnyH_take (i:=0) (oi:=oph0) (v := ?_) rfl (by kernel_rfl) (by kernel_rfl) (by kernel_rfl) (fun _ _ _ h=>h) (Or.inl ⟨by rfl,?_⟩) (by assumption) ?_
 rotate_left
 ·intro w' hSw
  obtain⟨-,p0,p1,p2,p3,p4⟩:=hSw
  unfold oph0
  first
  | (go_simp;done)
  | (go_simp;with_reducible rfl)
 simp only[oph0,Act.put,List.setIfInBounds_toArray,List.set_cons_zero,List.set_cons_succ]
 refine wpAnyH_take (i:=1) (oi:=oph1) (v := ?_) rfl (by kernel_rfl) (by kernel_rfl) (by kernel_rfl) (fun _ _ _ h=>h) (Or.inl ⟨by rfl,?_⟩) (by assumption) ?_
 rotate_left
 ·intro w' hSw
  clear hSw
  unfold oph1
  first
  | (go_simp;done)
  | (go_simp;with_reducible rfl)
 simp only[oph1,Act.put,List.setIfInBounds_toArray,List.set_cons_zero,List.set_cons_succ]
 refine wpAnyH_take (i:=2) (oi:=oph2) (v := ?_) rfl (by kernel_rfl) (by kernel_rfl) (by kernel_rfl) (fun _ _ _ h=>h) (Or.inl ⟨by rfl,?_⟩) (by assumption) ?_
 rotate_left
 ·intro w' hSw
  clear hSw
  unfold oph2
  first
  | (go_simp;done)
  | (go_simp;with_reducible rfl)
 simp only[oph2,Act.put,List.setIfInBounds_toArray,List.set_cons_zero,List.set_cons_succ]
 refine wpAnyH_take (i:=3) (oi:=oph3) (v := ?_) rfl (by kernel_rfl) (by kernel_rfl) (by kernel_rfl) (fun _ _ _ h=>h) (Or.inl ⟨by rfl,?_⟩) (by assumption) ?_
 rotate_left
 ·intro w' hSw
  clear hSw
  unfold oph3
  first
  | (go_simp;done)
  | (go_simp;with_reducible rfl)
 simp only[oph3,Act.put,List.setIfInBounds_toArray,List.set_cons_zero,List.set_cons_succ]
 rw[hD0] at hHeld
 rw[hD0]
 clear hD0 HS0
 refine wpAnyH_ready (rs:=[4]) (by kernel_rfl) (by simp) ?_
 refine AllReadyH.cons (o:=oph4) rfl (fun KK hKK => ?_) AllReadyH.nil
 unfold oph4
 go_simp
 have J4:Hid (Stp w (D0.alloc (.cells #[.string ⟨#[]⟩,.string ⟨#[]⟩,.string ⟨#[]⟩,.string ⟨#[]⟩,.string ⟨#[]⟩,.string ⟨#[]⟩] 58)) g gh D0.heap.size ⟨xk,xn,xu,xd,xid⟩ ⟨#[]⟩ ⟨#[]⟩ ⟨#[]⟩ ⟨#[]⟩ ⟨#[]⟩ ⟨#[]⟩∧Five (D0.alloc (.cells #[.string ⟨#[]⟩,.string ⟨#[]⟩,.string ⟨#[]⟩,.string ⟨#[]⟩,.string ⟨#[]⟩,.string ⟨#[]⟩] 58)) (gh+1) k0 k1 k2 k3 k4∧gh+1 < D0.heap.size):=by
  have hb:Below D0.heap.size D0 (D0.alloc (.cells #[.string ⟨#[]⟩,.string ⟨#[]⟩,.string ⟨#[]⟩,.string ⟨#[]⟩,.string ⟨#[]⟩,.string ⟨#[]⟩] 58)):=(Below.refl _ _).alloc (Nat.le_refl _) _
  obtain⟨j1,j2,j3,j4,j5,j6,j7⟩:=J3.out
  exact⟨⟨j1.later hb,j2.later hb,Six.new _ _ _ _ _ _ _ _,j4.trans (hb.mono (by omega)),by omega,by omega,j5,j7⟩,j3.later hb,by omega⟩
 refine hKK.out _ _ J4.out.2.1 (fun hHeldA => ?_)
 clear hKK KK hHeld
 obtain⟨U,hU⟩:∃U,D0.alloc (.cells #[.string ⟨#[]⟩,.string ⟨#[]⟩,.string ⟨#[]⟩,.string ⟨#[]⟩,.string ⟨#[]⟩,.string ⟨#[]⟩] 58)=U:=⟨_,rfl⟩
 obtain⟨gi,hgi⟩:∃gi,D0.heap.size=gi:=⟨_,rfl⟩
 rw[hU,hgi] at J4
 rw[hU] at hHeldA
 rw[hU,hgi]
 clear hU hgi J3
 obtain⟨fz,h0,h1,h2,h3,h4,h5⟩:=J4.out.1.2.2.1
 have z0:=fz 0
 have z1:=fz 1
 have z2:=fz 2
 have z3:=fz 3
 have z4:=fz 4
 have z5:=fz 5
 clear fz
 have PF:Hid (_∧_):=And.intro (J4.out.1.2.2.1.whole k0 k1 k2 k3 k4 B) (below_six (Below.refl gi U) (Nat.le_refl gi) (.string k0) (.string k1) (.string k2) (.string k3) (.string k4) (.string B))
 refine wpAnyH_ready (rs:=[5]) (by kernel_rfl) (by simp) ?_
 refine AllReadyH.cons (o:=oph5) rfl (fun KK hKK => ?_) AllReadyH.nil
 unfold oph5
 go_simp
 refine hKK.out _ _ (Five.above J4.out.2.1 PF.out.2 J4.out.2.2) (fun hHeldB => ?_)
 clear hKK KK hHeldA h0 h1 h2 h3 h4 h5 z0 z1 z2 z3 z4 z5
 obtain⟨U2,hU2⟩:∃U2,((((((U.setCell ⟨gi,0,none⟩ (.string k0)).setCell ⟨gi,1,none⟩ (.string k1)).setCell ⟨gi,2,none⟩ (.string k2)).setCell ⟨gi,3,none⟩ (.string k3)).setCell ⟨gi,4,none⟩ (.string k4)).setCell ⟨gi,5,none⟩ (.string B))=U2:=⟨_,rfl⟩
 rw[hU2] at PF hHeldB
 rw[hU2]
 clear hU2
 refine wpAnyH_done (by kernel_rfl) ?_ _
 refine NoPanic.normal ?_
 clear hHeldB
 have ST:Hid (Stp w U2 g gh gi ⟨xk,xn,xu,xd,xid⟩ k0 k1 k2 k3 k4 B):=J4.out.1.opened' PF.out.1 PF.out.2
 clear J4 PF
 obtain⟨h0,h1,h2',h3,h4⟩:=ST.out.2.1.cells
 obtain⟨-,c0,c1,c2,c3,c4,c5⟩:=ST.out.2.2.1
 by_cases hx:xk=1
 ·subst hx
  have hV:=V1.out rfl
  go_wp2_with fail
  refine Calls.mono (OC.out _ _ ST.out.2.2.1 (ST.out.kh hK.out)) ?_
  rintro e W2 ⟨rfl,h2,hb2⟩
  have S2:Hid (Stp w W2 g gh gi ⟨1,xn,xu,xd,xid⟩ k0 k1 k2 k3 k4 R):=ST.out.opened h2 hb2
  clear h2 hb2 ST OC TC h0 h1 h2' h3 h4 c0 c1 c2 c3 c4 c5
  obtain⟨h0,h1,h2,h3,h4⟩:=S2.out.2.1.cells
  obtain⟨-,c0,c1,c2,c3,c4,c5⟩:=S2.out.2.2.1
  obtain⟨⟨p0,p1,p2,p3,p4,p5,p6,p7⟩,z0,z1,z2,z3,z4,z5,z6,z7⟩:=PdAt.cells (k:=0) (n:=0) (u:=0) (d:=0) (id:=⟨#[]⟩) S2.out.1
  have F:Hid (_∧_):=S2.out.fin ⟨1,xn,xu,xd,xid⟩ NR k4 ⟨#[]⟩
  unfold putP at F
  simp only at F
  go_wp2
  refine bodyPost_ret (v := .tuple V) ?_ rfl ⟨rfl,by rw[hgg];exact F.out.2⟩
  rw[hV]
  exact res_pd _ _ g ⟨1,xn,xu,xd,xid⟩ _ _ _ 0 (by kernel_rfl) (by kernel_rfl) F.out.1
 ·have gx:(xk == 1)=false:=by rw[beq_eq_false_iff_ne];exact hx
  go_wp2_with fail
  refine Calls.mono (TC.out _ _ ST.out.2.2.1 (ST.out.kh hK.out)) ?_
  rintro e W2 ⟨rfl,hb2⟩
  have S2:Hid (Stp w W2 g gh gi ⟨xk,xn,xu,xd,xid⟩ k0 k1 k2 k3 k4 B):=ST.out.later (Nat.le_of_lt ST.out.1.lt) hb2
  clear hb2 ST OC TC h0 h1 h2' h3 h4 c0 c1 c2 c3 c4 c5
  obtain⟨h0,h1,h2,h3,h4⟩:=S2.out.2.1.cells
  obtain⟨-,c0,c1,c2,c3,c4,c5⟩:=S2.out.2.2.1
  obtain⟨⟨p0,p1,p2,p3,p4,p5,p6,p7⟩,z0,z1,z2,z3,z4,z5,z6,z7⟩:=PdAt.cells (k:=0) (n:=0) (u:=0) (d:=0) (id:=⟨#[]⟩) S2.out.1
  by_cases hU:UE=0
  ·subst hU
   have hV:=V3.out hx rfl
   have F:Hid (_∧_):=S2.out.fin ⟨xk,xn,xu,xd,xid⟩ ⟨#[]⟩ k4 UT
   unfold putP at F
   simp only at F
   go_wp2
   refine bodyPost_ret (v := .tuple V) ?_ rfl ⟨rfl,by rw[hgg];exact F.out.2⟩
   rw[hV]
   exact res_pd _ _ g ⟨xk,xn,xu,xd,xid⟩ _ _ _ 0 (by kernel_rfl) (by kernel_rfl) F.out.1
  ·have hV:=V2.out hx hU
   have F:Hid (_∧_):=S2.out.fin zh ⟨#[]⟩ ⟨#[]⟩ ⟨#[]⟩
   unfold putP zh at F
   simp only at F
   go_wp2
   refine bodyPost_ret (v := .tuple V) ?_ rfl ⟨rfl,by rw[hgg];exact F.out.2⟩
   rw[hV]
   exact res_pd _ _ g zh _ _ _ UE (by kernel_rfl) (by kernel_rfl) F.out.1
theorem ppeel_of (CL:Hid PeelC) (CO:Hid OpenC) (CU:Hid UnwrapC):PPeelC:=fun p b w zp _ hK=>by
 by_cases hb:b.size=504
 ·have zH:(b.extract 0 248).size=248:=by rw[ByteArray.size_extract];omega
  have zB:(b.extract 248 504).size=256:=by rw[ByteArray.size_extract];omega
  have dB:(b.extract 248 504).data.toList=b.data.toList.drop 248:=by
   rw[ByteArray.data_extract,Array.toList_extract,List.extract_eq_take_drop,List.take_of_length_le]
   rw[List.length_drop,list_sz]
   omega
  have PE:=fun w' (h:Kh w')=>CL.out p (b.extract 0 248) w' zp (by show (b.extract 0 248).size≤_;omega) h
  have eV:ppV p b=(match hpl p (b.extract 0 248) with
   | .error e=>#[pdz,.int .i64 e]
   | .ok (x,n,s)=>if x.k=1 then #[pdv x ⟨(n.data.toList++openl (bdy s).data.toList (b.data.toList.drop 248)).toArray⟩ (rtg s) ⟨#[]⟩,.int .i64 0]
    else (match textl (openl (bdy s).data.toList (b.data.toList.drop 248)) with
     | none=>#[pdz,.int .i64 90]
     | some t=>#[pdv x ⟨#[]⟩ (rtg s) ⟨t.toArray⟩,.int .i64 0])):=by unfold ppV;rw[if_pos hb];rfl
  rw[plV_hpl] at PE
  rw[eV]
  cases hh:hpl p (b.extract 0 248) with
  | error e =>
   rw[hh] at PE
   exact pPeel_no p b hb w e (hpl_no_ne hh) (fun w' hw=>PE w' (hK.out.later hw))
  | ok v =>
   obtain⟨x,n,s⟩:=v
   rw[hh] at PE
   simp only
   have OP:=fun w' (h:Kh w')=>CO.out (hdk s lBody 32) (b.extract 248 504) w' (by rw[hdk_size];show (32:Nat)+64≤_;decide) (by show (b.extract 248 504).size≤_;omega) h
   have UW:=fun w' (h:Kh w')=>CU.out (hdk s lBody 32) (b.extract 248 504) w' (by rw[hdk_size];show (32:Nat)+64≤_;decide) (by show (b.extract 248 504).size≤_;omega) h
   rw[opV_ok _ _ (by omega) (by omega)] at OP
   have zR:(⟨(openl (hdk s lBody 32).data.toList (b.extract 248 504).data.toList).toArray⟩:ByteArray).size=256:=by
    rw[ba_sz,openl_len _ _ (by rw[list_sz];omega),list_sz,zB]
   have eR:n++(⟨(openl (hdk s lBody 32).data.toList (b.extract 248 504).data.toList).toArray⟩:ByteArray)=⟨(n.data.toList++openl (bdy s).data.toList (b.data.toList.drop 248)).toArray⟩:=by
    rw[←dB]
    apply ByteArray.ext
    simp[bdy]
   cases hT:textl (openl (bdy s).data.toList (b.data.toList.drop 248)) with
   | none =>
    rw[uwV_none _ _ (by omega) (by omega) (by rw[dB];exact hT)] at UW
    refine pPeel_yes p b hb w hK x n s _ _ _ _ (hpl_on_size hh) zR (fun hx => ?_) (fun hx _ => ?_) (fun _ h=>absurd h (by decide)) PE OP UW
    ·rw[if_pos hx,eR];rfl
    ·rw[if_neg hx]
   | some t =>
    rw[uwV_some _ _ t (by omega) (by omega) (by rw[dB];exact hT)] at UW
    refine pPeel_yes p b hb w hK x n s _ _ _ _ (hpl_on_size hh) zR (fun hx => ?_) (fun _ h=>absurd rfl h) (fun hx _ => ?_) PE OP UW
    ·rw[if_pos hx,eR];rfl
    ·rw[if_neg hx];rfl
 ·have eV:ppV p b=#[pdz,.int .i64 3]:=by unfold ppV;rw[if_neg hb]
  rw[eV]
  exact pPeel_form p b hb w
end Go.Proofs.YtgnkkjknngblbaaGreatDoor
