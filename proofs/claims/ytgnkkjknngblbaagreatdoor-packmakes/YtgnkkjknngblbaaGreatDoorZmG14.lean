/- The document's ladder. -/
import Derived.Test.YtgnkkjknngblbaaGreatDoorZmG13
import Derived.Test.YtgnkkjknngblbaaGreatDoorZmG08
namespace Go.Proofs.YtgnkkjknngblbaaGreatDoor.Crv
open Go.RowKit Go.Proofs.Fd Go.Proofs.Ed
set_option maxRecDepth 20000
def zd:Nat→Int:=fun _=>0
theorem dk_zero:dk zd 0:=by
 exact⟨fun j _=>by simp[zd],by decide⟩
theorem pair_one (f g:Nat→Int):∀v∈nl f++nl g,v.oneCell'=true:=fun v hv=>(List.mem_append.1 hv).elim (nl_one _ v) (nl_one _ v)
theorem oper_ok {P:Program} {o:Oper} {a:Act} {w w':World} {K:Act→World→Prop} {Q:Exit→Act→World→Prop} {v:Value} (h:(execOp a.eval o).run P w = .ok (.value v) w') (hk:K (a.put o.dst v) w'):o.wp P a w K Q:=by
 unfold Oper.wp
 rw[h]
 exact hk
structure Ld (w:World) (U A B C:Nat) (fu fa fb ga gb:Nat→Int) (W:World):Prop where
 u:W.rangeAt U 0 (nl fu)
 a:W.rangeAt A 0 (nl fa++nl fb)
 b:W.rangeAt B 0 (nl ga++nl gb)
 ta:W.there A 0 20
 tb:W.there B 0 20
 tc:W.there C 0 10
 below:Below w.heap.size w W
 ord:w.heap.size≤U∧U < C∧C < A∧A < B∧B < W.heap.size
theorem Ld.later {w W W':World} {U A B C:Nat} {fu fa fb ga gb:Nat→Int} (h:Ld w U A B C fu fa fb ga gb W) (hb:Below W.heap.size W W'):Ld w U A B C fu fa fb ga gb W' :=
 ⟨range_later h.u hb,range_later h.a hb,range_later h.b hb,there_later h.ta hb,there_later h.tb hb,there_later h.tc hb,chain h.below hb,⟨h.ord.1,h.ord.2.1,h.ord.2.2.1,h.ord.2.2.2.1,Nat.lt_of_lt_of_le h.ord.2.2.2.2 hb.size⟩⟩
theorem size_setCells (b o:Nat) (cs:List Value) (W:World):(W.setCells b o cs).heap.size=W.heap.size:=by
 induction cs generalizing o W with
 | nil=>rfl
 | cons x r ih=>rw[World.setCells,ih];simp[World.setCell]
theorem Ld.setA {w W:World} {U A B C:Nat} {fu fa fb ga gb:Nat→Int} (h:Ld w U A B C fu fa fb ga gb W) (f g:Nat→Int):Ld w U A B C fu f g ga gb (W.setCells A 0 (nl f++nl g)):=by
 obtain⟨o1,o2,o3,o4,o5⟩:=h.ord
 exact⟨World.rangeAt_setCells_apart h.u _ _ _ (.inl (by omega)),World.rangeAt_setCells_same W A 0 _ h.ta,World.rangeAt_setCells_apart h.b _ _ _ (.inl (by omega)),World.there_setCells h.ta _ _ _,World.there_setCells h.tb _ _ _,World.there_setCells h.tc _ _ _,below_setCells (by omega) _ _ _ h.below,⟨o1,o2,o3,o4,by rw[size_setCells];exact o5⟩⟩
theorem Ld.setB {w W:World} {U A B C:Nat} {fu fa fb ga gb:Nat→Int} (h:Ld w U A B C fu fa fb ga gb W) (f g:Nat→Int):Ld w U A B C fu fa fb f g (W.setCells B 0 (nl f++nl g)):=by
 obtain⟨o1,o2,o3,o4,o5⟩:=h.ord
 exact⟨World.rangeAt_setCells_apart h.u _ _ _ (.inl (by omega)),World.rangeAt_setCells_apart h.a _ _ _ (.inl (by omega)),World.rangeAt_setCells_same W B 0 _ h.tb,World.there_setCells h.ta _ _ _,World.there_setCells h.tb _ _ _,World.there_setCells h.tc _ _ _,below_setCells (by omega) _ _ _ h.below,⟨o1,o2,o3,o4,by rw[size_setCells];exact o5⟩⟩
theorem res_lad (tmps:Array Value) (w:World) (b:Nat) (x:Array Value) (h4:tmps.getD 4 undef = .pointer (some ⟨b,0,none⟩))
  (l1:(loadVar 114 ⟨b,0,none⟩).run Tryz.prog w = .ok (.agg x) w) :
  (results Tryz.f95 tmps).run Tryz.prog w = .ok (.agg x) w:=by
 unfold results
 rw[Tryz.results95]
 have h4':tmps[4]?.getD undef = .pointer (some ⟨b,0,none⟩):=by simpa using h4
 simp[h4',l1,asAddr]
set_option maxRecDepth 10000 in
set_option maxHeartbeats 4000000 in
theorem rladder_any (s:ByteArray) (hs:s.size=32) (fu:Nat→Int) (u:K) (hu:Hid (dk fu u)) (w:World) :
  Calls Tryz.prog 95 #[.string s,.agg (nl fu).toArray] w fun e w'=>∃c:Nat→Int,e = .returned (.agg (nl c).toArray)∧dk c (lad (num s.data.toList) u)∧Below w.heap.size w w':=by
 obtain⟨W0,hW0⟩:∃W,(w.alloc (.cells (nl fu).toArray 114)).alloc (.cells #[.int .i64 0,.int .i64 0,.int .i64 0,.int .i64 0,.int .i64 0,.int .i64 0,.int .i64 0,.int .i64 0,.int .i64 0,.int .i64 0] 114)=W:=⟨_,rfl⟩
 have L0:Hid (W0.rangeAt w.heap.size 0 (nl fu)∧W0.there (w.heap.size+1) 0 10∧Below w.heap.size w W0∧W0.heap.size=w.heap.size+1+1):=by
  rw[←hW0]
  refine⟨World.rangeAt_alloc (range_new w (nl fu) _) _,?_,((Below.refl _ _).alloc (Nat.le_refl _) _).alloc (by simp) _,by simp⟩
  have:=there10 (w.alloc (.cells (nl fu).toArray 114)) 114
  simpa using this
 go_enter Tryz.func95, Tryz.ntmps95
 refine wp_seq_k (fun K1 hK1 => ?_)
 have HK1:Hid _:=hK1
 clear hK1
 go_wp2
 refine HK1.out _ _ ?_
 clear HK1 K1 hW0
 refine wp_seq_k (fun K1 hK1 => ?_)
 have HK1:Hid _:=hK1
 clear hK1
 refine wp_region_list (wpList_plain rfl (fun K hK => ?_))
 have HK:Hid _:=hK
 clear hK
 go_simp
 go_at_call 124
 refine Calls.mono (kOne _) ?_
 rintro e w1 ⟨rfl,hb⟩
 have L1:Hid (w1.rangeAt w.heap.size 0 (nl fu)∧w1.there (w.heap.size+1) 0 10∧Below w.heap.size w w1∧w.heap.size+1 < w1.heap.size):=⟨range_later L0.out.1 hb,there_later L0.out.2.1 hb,chain L0.out.2.2.1 hb,by have h1:=L0.out.2.2.2;have h2:=hb.size;omega⟩
 clear hb L0
 refine HK.out _ _ ?_
 clear HK K
 refine wpList_plain rfl (fun K hK => ?_)
 refine oper_ok (v := .agg (nl zd).toArray) (w':=w1) (by kernel_rfl) ?_
 refine hK _ _ ?_
 clear hK K
 refine wpList_plain rfl (fun K hK => ?_)
 refine oper_ok (v := .agg (nl od1++nl zd).toArray) (w':=w1) (by kernel_rfl) ?_
 refine hK _ _ ?_
 clear hK K
 obtain⟨W1,hW1⟩:∃W,w1.alloc (.cells #[.int .i64 0,.int .i64 0,.int .i64 0,.int .i64 0,.int .i64 0,.int .i64 0,.int .i64 0,.int .i64 0,.int .i64 0,.int .i64 0,.int .i64 0,.int .i64 0,.int .i64 0,.int .i64 0,.int .i64 0,.int .i64 0,.int .i64 0,.int .i64 0,.int .i64 0,.int .i64 0] 152)=W:=⟨_,rfl⟩
 refine wpList_plain rfl (fun K hK => ?_)
 refine oper_ok (v := .pointer (some ⟨w1.heap.size,0,none⟩)) (w':=W1) (by rw[←hW1];kernel_rfl) ?_
 refine hK _ _ ?_
 clear hK K
 have T1:Hid (W1.there w1.heap.size 0 20):=hW1 ▸ there20 w1 _
 simp only[Act.put,List.setIfInBounds_toArray,List.set_cons_zero,List.set_cons_succ]
 refine wpList_store_mid rfl 152 (.tmp 5) (.tmp 11) rfl w1.heap.size 0 (nl od1++nl zd).toArray (by kernel_rfl) (by kernel_rfl) T1.out sizePair (all_oneCell_toArray (pair_one _ _)) ?_
 refine wpList_nil (HK1.out _ _ ?_)
 clear HK1 K1
 obtain⟨V1,hV1⟩:∃V,W1.setCells w1.heap.size 0 (nl od1++nl zd).toArray.toList=V:=⟨_,rfl⟩
 have L2:Hid (V1.rangeAt w.heap.size 0 (nl fu)∧V1.there (w.heap.size+1) 0 10∧Below w.heap.size w V1∧w.heap.size+1 < w1.heap.size∧w1.heap.size < V1.heap.size∧V1.rangeAt w1.heap.size 0 (nl od1++nl zd)∧V1.there w1.heap.size 0 20):=by
  obtain⟨q1,q2,q3,q4⟩:=L1.out
  have hb:Below w1.heap.size w1 V1:=by rw[←hV1];exact below_setCells (Nat.le_refl _) _ _ _ (hW1 ▸ (Below.refl _ _).alloc (Nat.le_refl _) _)
  refine⟨range_later q1 hb,there_later q2 hb,chain q3 hb,q4,?_,hV1 ▸ World.rangeAt_setCells_same W1 w1.heap.size 0 (nl od1++nl zd) T1.out,hV1 ▸ World.there_setCells T1.out _ _ _⟩
  rw[←hV1,size_setCells,←hW1];simp
 rw[hV1]
 clear hV1 hW1 T1 L1
 simp only[Act.put]
 obtain⟨A,hA⟩:∃A,w1.heap.size=A:=⟨_,rfl⟩
 obtain⟨C,hC⟩:∃C,w.heap.size+1=C:=⟨_,rfl⟩
 rw[hA,hC] at L2
 rw[hA,hC]
 refine wp_seq_k (fun K1 hK1 => ?_)
 have HK1:Hid _:=hK1
 clear hK1
 have ORD:Hid (C=w.heap.size+1∧C < A∧A < V1.heap.size):=⟨hC.symm,L2.out.2.2.2.1,L2.out.2.2.2.2.1⟩
 have L3:Hid (V1.rangeAt w.heap.size 0 (nl fu)∧V1.there C 0 10∧Below w.heap.size w V1∧V1.rangeAt A 0 (nl od1++nl zd)∧V1.there A 0 20):=⟨L2.out.1,L2.out.2.1,L2.out.2.2.1,L2.out.2.2.2.2.2⟩
 clear L2 hC hA
 have REST:Hid (∀(B:Nat) (V:World),Ld w w.heap.size A B C fu od1 zd fu od1 V→K1 ⟨#[.string s,.agg (nl fu).toArray,undef,.pointer (some ⟨w.heap.size,0,none⟩),.pointer (some ⟨C,0,none⟩),.pointer (some ⟨A,0,none⟩),.pointer (some ⟨B,0,none⟩),undef,undef,.agg (nl od1).toArray,.agg (nl zd).toArray,.agg (nl od1++nl zd).toArray,.agg (nl fu).toArray,.agg (nl od1).toArray,.agg (nl fu++nl od1).toArray,undef,undef,undef,undef,undef,undef,undef,undef,undef,undef,undef,undef,undef,undef,undef,undef,undef,undef,undef,undef,undef,undef,undef,undef,undef,undef,undef,undef,undef,undef,undef,undef,undef],[]⟩ V):=by
  intro B V LV
  refine HK1.out _ _ ?_
  have HL:Hid (Ld w w.heap.size A B C fu od1 zd fu od1 V):=LV
  clear LV HK1 K1 L3 ORD
  go_wp2
  go_loopw [7] (fun i wr=>∃(t:Nat) (fa fb ga gb:Nat→Int) (x2 z2 x3 z3:K),i = .int .i64 ((t:Int) - 1)∧t≤255∧Hid (Ld w w.heap.size A B C fu fa fb ga gb wr∧dk fa x2∧dk fb z2∧dk ga x3∧dk gb z3∧((x2,z2),(x3,z3))=run u (num s.data.toList) (255 - t))) (fun i _=>(intOf i+1).toNat)
  case atStart=>exact⟨255,od1,zd,fu,od1,1,0,u,1,rfl,by omega,HL.out,dk_one,dk_zero,hu,dk_one,rfl⟩
  case round =>
   obtain⟨t,fa,fb,ga,gb,x2,z2,x3,z3,rfl,ht,I⟩:=hrel
   have LI:Hid (Ld w w.heap.size A B C fu fa fb ga gb wr):=I.out.1
   by_cases h0:t=0
   ·subst h0
    rw[show ((0:Nat):Int) - 1 = -1 by omega]
    have FIN:Hid (lad (num s.data.toList) u=x2*kinv z2):=by
     have h:=I.out.2.2.2.2.2
     show (run u (num s.data.toList) (255 - 0)).1.1*kinv (run u (num s.data.toList) (255 - 0)).1.2=_
     rw[←h]
    have OR:Hid (w.heap.size < C∧C < A∧C < wr.heap.size):=by
     have o:=LI.out.ord
     show _∧_∧_
     omega
    go_wp2
    have RA:Hid (wr.rangeAt A 0 (nl fa)∧wr.rangeAt A 10 (nl fb)):=⟨range_fst LI.out.a,range_snd LI.out.a rfl⟩
    refine wp_region_held_drew (S:=fun w'=>w'.rangeAt A 0 (nl fa)∧w'.rangeAt A 10 (nl fb)∧w'.there C 0 10∧Below w.heap.size w w') (by kernel_rfl) ⟨(World.rangeAt_drew _ _ _ _).2 RA.out.1,(World.rangeAt_drew _ _ _ _).2 RA.out.2,(World.there_drew _ _ _ _).2 LI.out.tc,LI.out.below.drew⟩ (fun hHeld => ?_)
    refine wpAnyH_take (i:=0) (v := .pointer (some ⟨A,0,none⟩)) rfl (by kernel_rfl) (by kernel_rfl) (by kernel_rfl) (fun _ _ _ h=>h) (Or.inl ⟨by rfl,fun w hSw=>by go_simp⟩) (by assumption) ?_
    refine wpAnyH_take (i:=1) (v := .agg (nl fa).toArray) rfl (by kernel_rfl) (by kernel_rfl) (by kernel_rfl) (fun _ _ _ h=>h) (yieldsIf_load_mid (by rfl) _ _ rfl A 0 rfl (nl fa) _ (fun w' h=>h.1) Tryz.underlying114 rfl sizeNum) (by assumption) ?_
    refine wpAnyH_take (i:=2) (v := .pointer (some ⟨A,10,none⟩)) rfl (by kernel_rfl) (by kernel_rfl) (by kernel_rfl) (fun _ _ _ h=>h) (Or.inl ⟨by rfl,fun w hSw=>by go_simp⟩) (by assumption) ?_
    refine wpAnyH_take (i:=3) (v := .agg (nl fb).toArray) rfl (by kernel_rfl) (by kernel_rfl) (by kernel_rfl) (fun _ _ _ h=>h) (yieldsIf_load_mid (by rfl) _ _ rfl A 10 rfl (nl fb) _ (fun w' h=>h.2.1) Tryz.underlying114 rfl sizeNum) (by assumption) ?_
    refine wpAnyH_ready (rs:=[4]) (by kernel_rfl) (by simp) ?_
    refine AllReadyH.cons rfl (fun K hK => ?_) AllReadyH.nil
    go_simp
    go_at_call 126
    refine Calls.mono (kInverse fb z2 I.out.2.2.1 _) ?_
    rintro e v4 ⟨ci,rfl,hci,hb2⟩
    have HCI:Hid (dk ci (kinv z2)):=hci
    clear hci
    go_wp2_with fail
    refine hK.out _ _ ⟨range_later hHeld.1 hb2,range_later hHeld.2.1 hb2,there_later hHeld.2.2.1 hb2,chain hHeld.2.2.2 hb2⟩ (fun hHeld => ?_)
    clear hK K hb2
    refine wpAnyH_ready (rs:=[5]) (by kernel_rfl) (by simp) ?_
    refine AllReadyH.cons rfl (fun K hK => ?_) AllReadyH.nil
    go_simp
    go_at_call 123
    refine Calls.mono (kTimes fa ci x2 (kinv z2) I.out.2.1 HCI.out _) ?_
    rintro e v5 ⟨cr,rfl,hcr,hb2⟩
    have HCR:Hid (dk cr (x2*kinv z2)):=hcr
    clear hcr
    go_wp2_with fail
    refine hK.out _ _ ⟨range_later hHeld.1 hb2,range_later hHeld.2.1 hb2,there_later hHeld.2.2.1 hb2,chain hHeld.2.2.2 hb2⟩ (fun hHeld => ?_)
    clear hK K hb2
    refine wpAnyH_ready (rs:=[6]) (by kernel_rfl) (by simp) ?_
    refine AllReadyH.cons rfl (fun K hK => ?_) AllReadyH.nil
    rw[if_pos (by rfl)]
    have TC:v5.there C 0 (nl cr).toArray.size:=by rw[show (nl cr).toArray.size=10 from rfl];exact hHeld.2.2.1
    have TL:v5.there C 0 (nl cr).length:=by rw[show (nl cr).length=10 from rfl];exact hHeld.2.2.1
    refine wp_store_mid 114 (.tmp 4) (.tmp 47) (by kernel_rfl) C 0 (nl cr).toArray (by kernel_rfl) (by kernel_rfl) TC sizeNum (all_oneCell_toArray (nl_one cr)) ?_
    have RF:Hid ((v5.setCells C 0 (nl cr)).rangeAt C 0 (nl cr)∧Below w.heap.size w (v5.setCells C 0 (nl cr))):=⟨World.rangeAt_setCells_same v5 C 0 (nl cr) TL,below_setCells (by have o:=OR.out;omega) _ _ _ hHeld.2.2.2⟩
    refine hK.out _ _ ⟨World.rangeAt_setCells_apart hHeld.1 _ _ _ (.inl (by have o:=OR.out;omega)),World.rangeAt_setCells_apart hHeld.2.1 _ _ _ (.inl (by have o:=OR.out;omega)),World.there_setCells hHeld.2.2.1 _ _ _,below_setCells (by have o:=OR.out;omega) _ _ _ hHeld.2.2.2⟩ (fun hHeld => ?_)
    clear hK K TC TL
    obtain⟨VF,hVF⟩:∃V,v5.setCells C 0 (nl cr).toArray.toList=V:=⟨_,rfl⟩
    rw[hVF] at hHeld ⊢
    have RF2:Hid (VF.rangeAt C 0 (nl cr)∧Below w.heap.size w VF):=hVF ▸ RF
    clear hVF RF hHeld
    refine wpAnyH_done (by kernel_rfl) ?_ _
    go_wp2
    refine bodyPost_ret (v := .agg (nl cr).toArray) ?_ rfl ⟨cr,rfl,by rw[FIN.out];exact HCR.out,RF2.out.2⟩
    exact res_lad _ VF C _ (by kernel_rfl) (run_loadVar_mid VF C 0 114 (nl cr) _ RF2.out.1 Tryz.underlying114 rfl sizeNum)
   ·obtain⟨m,rfl⟩:∃m,t=m+1:=⟨t - 1,by omega⟩
    rw[show ((m+1:Nat):Int) - 1=(m:Int) by omega]
    have hms:m / 8 < s.size:=by rw[hs];omega
    obtain⟨b,hbb⟩:∃b,num s.data.toList / 2 ^ m % 2=b:=⟨_,rfl⟩
    have hb2:b < 2:=by rw[←hbb];exact Nat.mod_lt _ (by decide)
    have hbit:bits .and .u8 ((s[m / 8].toNat:Int) / 2 ^ (m % 8)) 1=(b:Int):=by
     rw [bit_byte, ← hbb, ← bit_at _ m (by have : s.data.toList.length = 32 := by simpa using hs
                                           omega)];rfl
    have RN:Hid (run u (num s.data.toList) (255 - m)=nxt u b ((x2,z2),(x3,z3))):=by
     show _=_
     rw[I.out.2.2.2.2.2,run_next u _ m (by omega),hbb]
    clear hbb h0
    rcases (by omega:b=0∨b=1) with rfl|rfl
    ·skip
     have hbit':bits .and .u8 ((s[m / 8].toNat:Int) / 2 ^ (m % 8)) 1=0:=hbit
     clear hbit
     refine wp_seq_k (fun Ka hKa => ?_)
     have HKa:Hid _:=hKa
     clear hKa
     go_wp2
     refine HKa.out _ _ ?_
     clear HKa Ka
     refine wp_seq_k (fun Kb hKb => ?_)
     have HKb:Hid _:=hKb
     clear hKb
     refine wp_block ?_
     refine wp_seq_k (fun Kc hKc => ?_)
     have HKc:Hid _:=hKc
     clear hKc
     go_wp2
     refine HKc.out _ _ ?_
     clear HKc Kc
     refine wp_seq_k (fun Kd hKd => ?_)
     have HKd:Hid _:=hKd
     clear hKd
     refine wp_seq_k (fun Ke hKe => ?_)
     have HKe:Hid _:=hKe
     clear hKe
     go_wp2
     refine HKe.out _ _ ?_
     clear HKe Ke
     refine wp_cond_false (by kernel_rfl) (wp_skip ?_)
     refine HKd.out _ _ ?_
     clear HKd Kd
     refine wp_seq_k (fun Kf hKf => ?_)
     have HKf:Hid _:=hKf
     clear hKf
     refine wp_region_list ?_
     refine wpList_load_mid rfl 114 (.tmp 3) rfl w.heap.size 0 (by kernel_rfl) (nl fu) _ LI.out.u Tryz.underlying114 rfl sizeNum ?_
     refine wpList_load_mid rfl 152 (.tmp 5) rfl A 0 (by kernel_rfl) (nl fa++nl fb) _ LI.out.a Tryz.underlying152 rfl sizePair ?_
     refine wpList_load_mid rfl 152 (.tmp 6) rfl B 0 (by kernel_rfl) (nl ga++nl gb) _ LI.out.b Tryz.underlying152 rfl sizePair ?_
     refine wpList_plain rfl (fun K hK => ?_)
     have HK:Hid _:=hK
     clear hK
     simp only[Act.put,List.setIfInBounds_toArray,List.set_cons_zero,List.set_cons_succ]
     go_simp
     go_at_call 125
     refine Calls.mono (rstep_any fu fa fb ga gb u x2 z2 x3 z3 hu I.out.2.1 I.out.2.2.1 I.out.2.2.2.1 I.out.2.2.2.2.1 _) ?_
     rintro e w5 ⟨ca,cb,da,db,rfl,hdk,hb⟩
     have L5:Hid (Ld w w.heap.size A B C fu fa fb ga gb w5):=LI.out.later hb
     have D5:Hid (dk ca (stepL u (x2,z2) (x3,z3)).1.1∧dk cb (stepL u (x2,z2) (x3,z3)).1.2∧dk da (stepL u (x2,z2) (x3,z3)).2.1∧dk db (stepL u (x2,z2) (x3,z3)).2.2):=hdk
     clear hb hdk
     refine HK.out _ _ ?_
     clear HK K
     refine wpList_plain rfl (fun K hK => ?_)
     refine oper_ok (v := .tuple #[.agg (nl ca++nl cb).toArray,.agg (nl da++nl db).toArray]) (w':=w5) (by kernel_rfl) ?_
     refine hK _ _ ?_
     clear hK K
     refine wpList_plain rfl (fun K hK => ?_)
     refine oper_ok (v := .agg (nl ca++nl cb).toArray) (w':=w5) (by kernel_rfl) ?_
     refine hK _ _ ?_
     clear hK K
     refine wpList_plain rfl (fun K hK => ?_)
     refine oper_ok (v := .agg (nl da++nl db).toArray) (w':=w5) (by kernel_rfl) ?_
     refine hK _ _ ?_
     clear hK K
     refine wpList_store_mid rfl 152 (.tmp 5) (.tmp 36) rfl A 0 (nl ca++nl cb).toArray (by kernel_rfl) (by kernel_rfl) L5.out.ta sizePair (all_oneCell_toArray (pair_one _ _)) ?_
     have L6:Hid (Ld w w.heap.size A B C fu ca cb ga gb (w5.setCells A 0 (nl ca++nl cb))):=L5.out.setA ca cb
     refine wpList_store_mid rfl 152 (.tmp 6) (.tmp 37) rfl B 0 (nl da++nl db).toArray (by kernel_rfl) (by kernel_rfl) L6.out.tb sizePair (all_oneCell_toArray (pair_one _ _)) ?_
     have L7:Hid (Ld w w.heap.size A B C fu ca cb da db ((w5.setCells A 0 (nl ca++nl cb)).setCells B 0 (nl da++nl db))):=L6.out.setB da db
     obtain⟨V7,hV7⟩:∃V,(w5.setCells A 0 (nl ca++nl cb)).setCells B 0 (nl da++nl db)=V:=⟨_,rfl⟩
     rw[hV7] at L7
     clear L5 L6
     refine wpList_nil ?_
     rw[show (w5.setCells A 0 (nl ca++nl cb).toArray.toList).setCells B 0 (nl da++nl db).toArray.toList=V7 from hV7]
     clear hV7
     refine HKf.out _ _ ?_
     clear HKf Kf
     simp only[Act.put,List.setIfInBounds_toArray,List.set_cons_zero,List.set_cons_succ]
     refine wp_seq_k (fun Kg hKg => ?_)
     have HKg:Hid _:=hKg
     clear hKg
     go_wp2
     refine HKg.out _ _ ?_
     clear HKg Kg
     refine wp_cond_false (by kernel_rfl) (wp_skip ?_)
     refine HKb.out _ _ ?_
     clear HKb Kb
     go_wp2
     go_roundw
     case rel=>exact⟨m,ca,cb,da,db,(stepL u (x2,z2) (x3,z3)).1.1,(stepL u (x2,z2) (x3,z3)).1.2,(stepL u (x2,z2) (x3,z3)).2.1,(stepL u (x2,z2) (x3,z3)).2.2,by go_num,by omega,L7.out,D5.out.1,D5.out.2.1,D5.out.2.2.1,D5.out.2.2.2,RN.out.symm⟩
     case measure=>simp[intOf]
    ·skip
     have hbit':bits .and .u8 ((s[m / 8].toNat:Int) / 2 ^ (m % 8)) 1=1:=hbit
     clear hbit
     refine wp_seq_k (fun Ka hKa => ?_)
     have HKa:Hid _:=hKa
     clear hKa
     go_wp2
     refine HKa.out _ _ ?_
     clear HKa Ka
     refine wp_seq_k (fun Kb hKb => ?_)
     have HKb:Hid _:=hKb
     clear hKb
     refine wp_block ?_
     refine wp_seq_k (fun Kc hKc => ?_)
     have HKc:Hid _:=hKc
     clear hKc
     go_wp2
     refine HKc.out _ _ ?_
     clear HKc Kc
     refine wp_seq_k (fun Kd hKd => ?_)
     have HKd:Hid _:=hKd
     clear hKd
     refine wp_seq_k (fun Ke hKe => ?_)
     have HKe:Hid _:=hKe
     clear hKe
     go_wp2
     refine HKe.out _ _ ?_
     clear HKe Ke
     refine wp_cond_true (by kernel_rfl) ?_
     refine wp_region_list ?_
     refine wpList_load_mid rfl 152 (.tmp 6) rfl B 0 (by kernel_rfl) (nl ga++nl gb) _ LI.out.b Tryz.underlying152 rfl sizePair ?_
     refine wpList_load_mid rfl 152 (.tmp 5) rfl A 0 (by kernel_rfl) (nl fa++nl fb) _ LI.out.a Tryz.underlying152 rfl sizePair ?_
     refine wpList_store_mid rfl 152 (.tmp 5) (.tmp 29) rfl A 0 (nl ga++nl gb).toArray (by kernel_rfl) (by kernel_rfl) LI.out.ta sizePair (all_oneCell_toArray (pair_one _ _)) ?_
     have LIx:Hid (Ld w w.heap.size A B C fu ga gb ga gb (wr.setCells A 0 (nl ga++nl gb))):=LI.out.setA ga gb
     refine wpList_store_mid rfl 152 (.tmp 6) (.tmp 30) rfl B 0 (nl fa++nl fb).toArray (by kernel_rfl) (by kernel_rfl) LIx.out.tb sizePair (all_oneCell_toArray (pair_one _ _)) ?_
     have LIy:Hid (Ld w w.heap.size A B C fu ga gb fa fb ((wr.setCells A 0 (nl ga++nl gb)).setCells B 0 (nl fa++nl fb))):=LIx.out.setB fa fb
     obtain⟨V2,hV2⟩:∃V,(wr.setCells A 0 (nl ga++nl gb)).setCells B 0 (nl fa++nl fb)=V:=⟨_,rfl⟩
     rw[hV2] at LIy
     clear LIx
     refine wpList_nil ?_
     rw[show (wr.setCells A 0 (nl ga++nl gb).toArray.toList).setCells B 0 (nl fa++nl fb).toArray.toList=V2 from hV2]
     clear hV2
     refine HKd.out _ _ ?_
     clear HKd Kd
     refine wp_seq_k (fun Kf hKf => ?_)
     have HKf:Hid _:=hKf
     clear hKf
     refine wp_region_list ?_
     refine wpList_load_mid rfl 114 (.tmp 3) rfl w.heap.size 0 (by kernel_rfl) (nl fu) _ LIy.out.u Tryz.underlying114 rfl sizeNum ?_
     refine wpList_load_mid rfl 152 (.tmp 5) rfl A 0 (by kernel_rfl) (nl ga++nl gb) _ LIy.out.a Tryz.underlying152 rfl sizePair ?_
     refine wpList_load_mid rfl 152 (.tmp 6) rfl B 0 (by kernel_rfl) (nl fa++nl fb) _ LIy.out.b Tryz.underlying152 rfl sizePair ?_
     refine wpList_plain rfl (fun K hK => ?_)
     have HK:Hid _:=hK
     clear hK
     simp only[Act.put,List.setIfInBounds_toArray,List.set_cons_zero,List.set_cons_succ]
     go_simp
     go_at_call 125
     refine Calls.mono (rstep_any fu ga gb fa fb u x3 z3 x2 z2 hu I.out.2.2.2.1 I.out.2.2.2.2.1 I.out.2.1 I.out.2.2.1 _) ?_
     rintro e w5 ⟨ca,cb,da,db,rfl,hdk,hb⟩
     have L5:Hid (Ld w w.heap.size A B C fu ga gb fa fb w5):=LIy.out.later hb
     have D5:Hid (dk ca (stepL u (x3,z3) (x2,z2)).1.1∧dk cb (stepL u (x3,z3) (x2,z2)).1.2∧dk da (stepL u (x3,z3) (x2,z2)).2.1∧dk db (stepL u (x3,z3) (x2,z2)).2.2):=hdk
     clear hb hdk
     refine HK.out _ _ ?_
     clear HK K
     refine wpList_plain rfl (fun K hK => ?_)
     refine oper_ok (v := .tuple #[.agg (nl ca++nl cb).toArray,.agg (nl da++nl db).toArray]) (w':=w5) (by kernel_rfl) ?_
     refine hK _ _ ?_
     clear hK K
     refine wpList_plain rfl (fun K hK => ?_)
     refine oper_ok (v := .agg (nl ca++nl cb).toArray) (w':=w5) (by kernel_rfl) ?_
     refine hK _ _ ?_
     clear hK K
     refine wpList_plain rfl (fun K hK => ?_)
     refine oper_ok (v := .agg (nl da++nl db).toArray) (w':=w5) (by kernel_rfl) ?_
     refine hK _ _ ?_
     clear hK K
     refine wpList_store_mid rfl 152 (.tmp 5) (.tmp 36) rfl A 0 (nl ca++nl cb).toArray (by kernel_rfl) (by kernel_rfl) L5.out.ta sizePair (all_oneCell_toArray (pair_one _ _)) ?_
     have L6:Hid (Ld w w.heap.size A B C fu ca cb fa fb (w5.setCells A 0 (nl ca++nl cb))):=L5.out.setA ca cb
     refine wpList_store_mid rfl 152 (.tmp 6) (.tmp 37) rfl B 0 (nl da++nl db).toArray (by kernel_rfl) (by kernel_rfl) L6.out.tb sizePair (all_oneCell_toArray (pair_one _ _)) ?_
     have L7:Hid (Ld w w.heap.size A B C fu ca cb da db ((w5.setCells A 0 (nl ca++nl cb)).setCells B 0 (nl da++nl db))):=L6.out.setB da db
     obtain⟨V7,hV7⟩:∃V,(w5.setCells A 0 (nl ca++nl cb)).setCells B 0 (nl da++nl db)=V:=⟨_,rfl⟩
     rw[hV7] at L7
     clear L5 L6
     refine wpList_nil ?_
     rw[show (w5.setCells A 0 (nl ca++nl cb).toArray.toList).setCells B 0 (nl da++nl db).toArray.toList=V7 from hV7]
     clear hV7
     refine HKf.out _ _ ?_
     clear HKf Kf
     simp only[Act.put,List.setIfInBounds_toArray,List.set_cons_zero,List.set_cons_succ]
     refine wp_seq_k (fun Kg hKg => ?_)
     have HKg:Hid _:=hKg
     clear hKg
     go_wp2
     refine HKg.out _ _ ?_
     clear HKg Kg
     refine wp_cond_true (by kernel_rfl) ?_
     refine wp_region_list ?_
     refine wpList_load_mid rfl 152 (.tmp 6) rfl B 0 (by kernel_rfl) (nl da++nl db) _ L7.out.b Tryz.underlying152 rfl sizePair ?_
     refine wpList_load_mid rfl 152 (.tmp 5) rfl A 0 (by kernel_rfl) (nl ca++nl cb) _ L7.out.a Tryz.underlying152 rfl sizePair ?_
     refine wpList_store_mid rfl 152 (.tmp 5) (.tmp 40) rfl A 0 (nl da++nl db).toArray (by kernel_rfl) (by kernel_rfl) L7.out.ta sizePair (all_oneCell_toArray (pair_one _ _)) ?_
     have L7x:Hid (Ld w w.heap.size A B C fu da db da db (V7.setCells A 0 (nl da++nl db))):=L7.out.setA da db
     refine wpList_store_mid rfl 152 (.tmp 6) (.tmp 41) rfl B 0 (nl ca++nl cb).toArray (by kernel_rfl) (by kernel_rfl) L7x.out.tb sizePair (all_oneCell_toArray (pair_one _ _)) ?_
     have L7y:Hid (Ld w w.heap.size A B C fu da db ca cb ((V7.setCells A 0 (nl da++nl db)).setCells B 0 (nl ca++nl cb))):=L7x.out.setB ca cb
     obtain⟨V9,hV9⟩:∃V,(V7.setCells A 0 (nl da++nl db)).setCells B 0 (nl ca++nl cb)=V:=⟨_,rfl⟩
     rw[hV9] at L7y
     clear L7x
     refine wpList_nil ?_
     rw[show (V7.setCells A 0 (nl da++nl db).toArray.toList).setCells B 0 (nl ca++nl cb).toArray.toList=V9 from hV9]
     clear hV9
     refine HKb.out _ _ ?_
     clear HKb Kb
     simp only[Act.put,List.setIfInBounds_toArray,List.set_cons_zero,List.set_cons_succ]
     go_wp2
     go_roundw
     case rel=>exact⟨m,da,db,ca,cb,(stepL u (x3,z3) (x2,z2)).2.1,(stepL u (x3,z3) (x2,z2)).2.2,(stepL u (x3,z3) (x2,z2)).1.1,(stepL u (x3,z3) (x2,z2)).1.2,by go_num,by omega,L7y.out,D5.out.2.2.1,D5.out.2.2.2,D5.out.1,D5.out.2.1,RN.out.symm⟩
     case measure=>simp[intOf]
 clear HK1
 refine wp_region_held_drew (S:=fun w'=>w'.rangeAt w.heap.size 0 (nl fu)∧w'.there C 0 10∧Below w.heap.size w w'∧V1.heap.size≤w'.heap.size∧w'.rangeAt A 0 (nl od1++nl zd)∧w'.there A 0 20) (by kernel_rfl) ⟨(World.rangeAt_drew _ _ _ _).2 L3.out.1,(World.there_drew _ _ _ _).2 L3.out.2.1,L3.out.2.2.1.drew,Nat.le_refl _,(World.rangeAt_drew _ _ _ _).2 L3.out.2.2.2.1,(World.there_drew _ _ _ _).2 L3.out.2.2.2.2⟩ (fun hHeld => ?_)
 refine wpAnyH_take (i:=0) (v := .agg (nl fu).toArray) rfl (by kernel_rfl) (by kernel_rfl) (by kernel_rfl) (fun _ _ _ h=>h) (yieldsIf_load_mid (by rfl) _ _ rfl w.heap.size 0 rfl (nl fu) _ (fun w' h=>h.1) Tryz.underlying114 rfl sizeNum) (by assumption) ?_
 refine wpAnyH_ready (rs:=[1,3]) (by kernel_rfl) (by simp) ?_
 refine AllReadyH.cons rfl (fun K hK => ?_) ?_
 ·go_simp
  go_at_call 124
  refine Calls.mono (kOne _) ?_
  rintro e v2 ⟨rfl,hb2⟩
  go_wp2_with fail
  refine hK.out _ _ ⟨range_later hHeld.1 hb2,there_later hHeld.2.1 hb2,chain hHeld.2.2.1 hb2,Nat.le_trans hHeld.2.2.2.1 hb2.size,range_later hHeld.2.2.2.2.1 hb2,there_later hHeld.2.2.2.2.2 hb2⟩ (fun hHeld => ?_)
  clear hK K hb2
  refine wpAnyH_take (i:=2) (v := .agg (nl fu++nl od1).toArray) rfl (by kernel_rfl) (by kernel_rfl) (by kernel_rfl) (fun _ _ _ h=>h) (Or.inl ⟨by rfl,fun w hSw=>by kernel_rfl⟩) (by assumption) ?_
  refine wpAnyH_ready (rs:=[3]) (by kernel_rfl) (by simp) ?_
  refine AllReadyH.cons rfl (fun K hK => ?_) AllReadyH.nil
  rw[if_pos (by rfl)]
  obtain⟨W3,hW3⟩:∃W,v2.alloc (.cells #[.int .i64 0,.int .i64 0,.int .i64 0,.int .i64 0,.int .i64 0,.int .i64 0,.int .i64 0,.int .i64 0,.int .i64 0,.int .i64 0,.int .i64 0,.int .i64 0,.int .i64 0,.int .i64 0,.int .i64 0,.int .i64 0,.int .i64 0,.int .i64 0,.int .i64 0,.int .i64 0] 152)=W:=⟨_,rfl⟩
  refine oper_ok (v := .pointer (some ⟨v2.heap.size,0,none⟩)) (w':=W3) (by rw[←hW3];kernel_rfl) ?_
  have TB:W3.there v2.heap.size 0 20:=hW3 ▸ there20 v2 _
  have BLT:v2.heap.size < W3.heap.size:=by rw[←hW3];simp
  have hb2:Below v2.heap.size v2 W3:=hW3 ▸ (Below.refl _ _).alloc (Nat.le_refl _) _
  have hvs:V1.heap.size≤v2.heap.size:=hHeld.2.2.2.1
  refine hK.out _ _ ⟨range_later hHeld.1 hb2,there_later hHeld.2.1 hb2,chain hHeld.2.2.1 hb2,Nat.le_trans hHeld.2.2.2.1 hb2.size,range_later hHeld.2.2.2.2.1 hb2,there_later hHeld.2.2.2.2.2 hb2⟩ (fun hHeld => ?_)
  clear hK K hW3 hb2
  refine wpAnyH_ready (rs:=[4]) (by kernel_rfl) (by simp) ?_
  refine AllReadyH.cons rfl (fun K hK => ?_) AllReadyH.nil
  rw[if_pos (by rfl)]
  refine wp_store_mid 152 (.tmp 6) (.tmp 14) (by kernel_rfl) v2.heap.size 0 (nl fu++nl od1).toArray (by kernel_rfl) (by kernel_rfl) TB sizePair (all_oneCell_toArray (pair_one _ _)) ?_
  have LF:Ld w w.heap.size A v2.heap.size C fu od1 zd fu od1 (W3.setCells v2.heap.size 0 (nl fu++nl od1)):=⟨World.rangeAt_setCells_apart hHeld.1 _ _ _ (.inl (by have o:=ORD.out;omega)),World.rangeAt_setCells_apart hHeld.2.2.2.2.1 _ _ _ (.inl (by have o:=ORD.out;omega)),World.rangeAt_setCells_same W3 v2.heap.size 0 _ TB,World.there_setCells hHeld.2.2.2.2.2 _ _ _,World.there_setCells TB _ _ _,World.there_setCells hHeld.2.1 _ _ _,below_setCells (by have o:=ORD.out;omega) _ _ _ hHeld.2.2.1,⟨Nat.le_refl _,by have o:=ORD.out;omega,by have o:=ORD.out;omega,by have o:=ORD.out;omega,by rw[size_setCells];exact BLT⟩⟩
  refine hK.out _ _ ⟨World.rangeAt_setCells_apart hHeld.1 _ _ _ (.inl (by have o:=ORD.out;omega)),World.there_setCells hHeld.2.1 _ _ _,below_setCells (by have o:=ORD.out;omega) _ _ _ hHeld.2.2.1,by rw[size_setCells];exact hHeld.2.2.2.1,World.rangeAt_setCells_apart hHeld.2.2.2.2.1 _ _ _ (.inl (by have o:=ORD.out;omega)),World.there_setCells hHeld.2.2.2.2.2 _ _ _⟩ (fun hHeld => ?_)
  clear hK K
  refine wpAnyH_done (by kernel_rfl) ?_ _
  exact REST.out v2.heap.size _ LF
 refine AllReadyH.cons rfl (fun K hK => ?_) AllReadyH.nil
 rw[if_pos (by rfl)]
 obtain⟨W3,hW3⟩:∃W,V1.drew.alloc (.cells #[.int .i64 0,.int .i64 0,.int .i64 0,.int .i64 0,.int .i64 0,.int .i64 0,.int .i64 0,.int .i64 0,.int .i64 0,.int .i64 0,.int .i64 0,.int .i64 0,.int .i64 0,.int .i64 0,.int .i64 0,.int .i64 0,.int .i64 0,.int .i64 0,.int .i64 0,.int .i64 0] 152)=W:=⟨_,rfl⟩
 refine oper_ok (v := .pointer (some ⟨V1.heap.size,0,none⟩)) (w':=W3) (by rw[←hW3];kernel_rfl) ?_
 have TB0:W3.there V1.heap.size 0 20:=hW3 ▸ there20 V1.drew _
 have BLT0:V1.heap.size < W3.heap.size:=by rw[←hW3];simp
 have hb2:Below V1.drew.heap.size V1.drew W3:=hW3 ▸ (Below.refl _ _).alloc (Nat.le_refl _) _
 refine hK.out _ _ ⟨range_later hHeld.1 hb2,there_later hHeld.2.1 hb2,chain hHeld.2.2.1 hb2,Nat.le_trans hHeld.2.2.2.1 hb2.size,range_later hHeld.2.2.2.2.1 hb2,there_later hHeld.2.2.2.2.2 hb2⟩ (fun hHeld => ?_)
 clear hK K hW3 hb2
 refine wpAnyH_ready (rs:=[1]) (by kernel_rfl) (by simp) ?_
 refine AllReadyH.cons rfl (fun K hK => ?_) AllReadyH.nil
 go_simp
 go_at_call 124
 refine Calls.mono (kOne _) ?_
 rintro e v2 ⟨rfl,hb2⟩
 go_wp2_with fail
 have TB:v2.there V1.heap.size 0 20:=there_later TB0 hb2
 have BLT:V1.heap.size < v2.heap.size:=Nat.lt_of_lt_of_le BLT0 hb2.size
 refine hK.out _ _ ⟨range_later hHeld.1 hb2,there_later hHeld.2.1 hb2,chain hHeld.2.2.1 hb2,Nat.le_trans hHeld.2.2.2.1 hb2.size,range_later hHeld.2.2.2.2.1 hb2,there_later hHeld.2.2.2.2.2 hb2⟩ (fun hHeld => ?_)
 clear hK K hb2 TB0 BLT0
 refine wpAnyH_take (i:=2) (v := .agg (nl fu++nl od1).toArray) rfl (by kernel_rfl) (by kernel_rfl) (by kernel_rfl) (fun _ _ _ h=>h) (Or.inl ⟨by rfl,fun w hSw=>by kernel_rfl⟩) (by assumption) ?_
 refine wpAnyH_ready (rs:=[4]) (by kernel_rfl) (by simp) ?_
 refine AllReadyH.cons rfl (fun K hK => ?_) AllReadyH.nil
 rw[if_pos (by rfl)]
 refine wp_store_mid 152 (.tmp 6) (.tmp 14) (by kernel_rfl) V1.heap.size 0 (nl fu++nl od1).toArray (by kernel_rfl) (by kernel_rfl) TB sizePair (all_oneCell_toArray (pair_one _ _)) ?_
 have LF:Ld w w.heap.size A V1.heap.size C fu od1 zd fu od1 (v2.setCells V1.heap.size 0 (nl fu++nl od1)):=⟨World.rangeAt_setCells_apart hHeld.1 _ _ _ (.inl (by have o:=ORD.out;omega)),World.rangeAt_setCells_apart hHeld.2.2.2.2.1 _ _ _ (.inl (by have o:=ORD.out;omega)),World.rangeAt_setCells_same v2 V1.heap.size 0 _ TB,World.there_setCells hHeld.2.2.2.2.2 _ _ _,World.there_setCells TB _ _ _,World.there_setCells hHeld.2.1 _ _ _,below_setCells (by have o:=ORD.out;omega) _ _ _ hHeld.2.2.1,⟨Nat.le_refl _,by have o:=ORD.out;omega,by have o:=ORD.out;omega,by have o:=ORD.out;omega,by rw[size_setCells];exact BLT⟩⟩
 refine hK.out _ _ ⟨World.rangeAt_setCells_apart hHeld.1 _ _ _ (.inl (by have o:=ORD.out;omega)),World.there_setCells hHeld.2.1 _ _ _,below_setCells (by have o:=ORD.out;omega) _ _ _ hHeld.2.2.1,by rw[size_setCells];exact hHeld.2.2.2.1,World.rangeAt_setCells_apart hHeld.2.2.2.2.1 _ _ _ (.inl (by have o:=ORD.out;omega)),World.there_setCells hHeld.2.2.2.2.2 _ _ _⟩ (fun hHeld => ?_)
 clear hK K
 refine wpAnyH_done (by kernel_rfl) ?_ _
 exact REST.out V1.heap.size _ LF
end Go.Proofs.YtgnkkjknngblbaaGreatDoor.Crv
