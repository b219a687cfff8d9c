/- The document's step of the ladder. -/
import Derived.Test.YtgnkkjknngblbaaGreatDoorZnG12
namespace Go.Proofs.YtgnkkjknngblbaaGreatDoor.Crv
open Go.RowKit Go.Proofs.Fd Go.Proofs.Ed
set_option maxRecDepth 20000
theorem step_start (w W:World) (fu fx fz gx gz:Nat→Int) (hW:((((w.alloc (.cells (nl fu).toArray 114)).alloc (.cells (nl fx++nl fz).toArray 152)).alloc (.cells (nl gx++nl gz).toArray 152)).alloc (.cells #[.int .i64 0,.int .i64 0,.int .i64 0,.int .i64 0,.int .i64 0,.int .i64 0,.int .i64 0,.int .i64 0,.int .i64 0,.int .i64 0,.int .i64 0,.int .i64 0,.int .i64 0,.int .i64 0,.int .i64 0,.int .i64 0,.int .i64 0,.int .i64 0,.int .i64 0,.int .i64 0] 152)).alloc (.cells #[.int .i64 0,.int .i64 0,.int .i64 0,.int .i64 0,.int .i64 0,.int .i64 0,.int .i64 0,.int .i64 0,.int .i64 0,.int .i64 0,.int .i64 0,.int .i64 0,.int .i64 0,.int .i64 0,.int .i64 0,.int .i64 0,.int .i64 0,.int .i64 0,.int .i64 0,.int .i64 0] 152)=W):Tr w W [(w.heap.size,0,nl fu),(w.heap.size+1,0,nl fx),(w.heap.size+1,10,nl fz),(w.heap.size+1+1,0,nl gx),(w.heap.size+1+1,10,nl gz)]:=by
 have a0:Rg w []:=fun x hx=>by cases hx
 have a1:=a0.new (nl fu) 114
 have a2:=a1.new (nl fx++nl fz) 152
 have a3:=a2.new (nl gx++nl gz) 152
 have a4:=(a3.later ((Below.refl _ _).alloc (Nat.le_refl _) (.cells #[.int .i64 0,.int .i64 0,.int .i64 0,.int .i64 0,.int .i64 0,.int .i64 0,.int .i64 0,.int .i64 0,.int .i64 0,.int .i64 0,.int .i64 0,.int .i64 0,.int .i64 0,.int .i64 0,.int .i64 0,.int .i64 0,.int .i64 0,.int .i64 0,.int .i64 0,.int .i64 0] 152))).later ((Below.refl _ _).alloc (Nat.le_refl _) (.cells #[.int .i64 0,.int .i64 0,.int .i64 0,.int .i64 0,.int .i64 0,.int .i64 0,.int .i64 0,.int .i64 0,.int .i64 0,.int .i64 0,.int .i64 0,.int .i64 0,.int .i64 0,.int .i64 0,.int .i64 0,.int .i64 0,.int .i64 0,.int .i64 0,.int .i64 0,.int .i64 0] 152))
 rw[hW] at a4
 have p1:=a4 (w.heap.size,0,nl fu) (by simp)
 have p2:W.rangeAt (w.heap.size+1) 0 (nl fx++nl fz):=by simpa using a4 ((w.alloc (.cells (nl fu).toArray 114)).heap.size,0,nl fx++nl fz) (by simp)
 have p3:W.rangeAt (w.heap.size+1+1) 0 (nl gx++nl gz):=by simpa using a4 (((w.alloc (.cells (nl fu).toArray 114)).alloc (.cells (nl fx++nl fz).toArray 152)).heap.size,0,nl gx++nl gz) (by simp)
 have t1:=there20 (((w.alloc (.cells (nl fu).toArray 114)).alloc (.cells (nl fx++nl fz).toArray 152)).alloc (.cells (nl gx++nl gz).toArray 152)) 152
 have t2:=there20 ((((w.alloc (.cells (nl fu).toArray 114)).alloc (.cells (nl fx++nl fz).toArray 152)).alloc (.cells (nl gx++nl gz).toArray 152)).alloc (.cells #[.int .i64 0,.int .i64 0,.int .i64 0,.int .i64 0,.int .i64 0,.int .i64 0,.int .i64 0,.int .i64 0,.int .i64 0,.int .i64 0,.int .i64 0,.int .i64 0,.int .i64 0,.int .i64 0,.int .i64 0,.int .i64 0,.int .i64 0,.int .i64 0,.int .i64 0,.int .i64 0] 152)) 152
 have t3:=there_later t1 ((Below.refl _ _).alloc (Nat.le_refl _) (.cells #[.int .i64 0,.int .i64 0,.int .i64 0,.int .i64 0,.int .i64 0,.int .i64 0,.int .i64 0,.int .i64 0,.int .i64 0,.int .i64 0,.int .i64 0,.int .i64 0,.int .i64 0,.int .i64 0,.int .i64 0,.int .i64 0,.int .i64 0,.int .i64 0,.int .i64 0,.int .i64 0] 152))
 rw[hW] at t2 t3
 have hsz:W.heap.size=w.heap.size+1+1+1+1+1:=by rw[←hW];simp
 refine⟨fun x hx => ?_,?_,by simpa using t3,by simpa using t2,fun x hx => ?_,by omega⟩
 ·simp only[List.mem_cons,List.not_mem_nil,or_false] at hx
  rcases hx with rfl|rfl|rfl|rfl|rfl
  ·exact p1
  ·exact range_fst p2
  ·exact range_snd p2 rfl
  ·exact range_fst p3
  ·exact range_snd p3 rfl
 ·rw[←hW]
  exact (((((Below.refl _ _).alloc (Nat.le_refl _) _).alloc (by simp) _).alloc (by simp;omega) _).alloc (by simp;omega) _).alloc (by simp;omega) _
 ·simp only[List.mem_cons,List.not_mem_nil,or_false] at hx
  rcases hx with rfl|rfl|rfl|rfl|rfl <;> (simp only;omega)
theorem res_pair (tmps:Array Value) (w:World) (b1 b2:Nat) (x y:Array Value) (h6:tmps.getD 6 undef = .pointer (some ⟨b1,0,none⟩)) (h7:tmps.getD 7 undef = .pointer (some ⟨b2,0,none⟩))
  (l1:(loadVar 152 ⟨b1,0,none⟩).run Tryz.prog w = .ok (.agg x) w) (l2:(loadVar 152 ⟨b2,0,none⟩).run Tryz.prog w = .ok (.agg y) w) :
  (results Tryz.f125 tmps).run Tryz.prog w = .ok (.tuple #[.agg x,.agg y]) w:=by
 unfold results
 rw[Tryz.results125]
 have h6':tmps[6]?.getD undef = .pointer (some ⟨b1,0,none⟩):=by simpa using h6
 have h7':tmps[7]?.getD undef = .pointer (some ⟨b2,0,none⟩):=by simpa using h7
 simp[h6',h7',l1,l2,asAddr]
set_option maxHeartbeats 20000000 in
theorem rstep_any (fu fx fz gx gz:Nat→Int) (u x2 z2 x3 z3:K) (hu:Hid (dk fu u)) (hx2:Hid (dk fx x2)) (hz2:Hid (dk fz z2)) (hx3:Hid (dk gx x3)) (hz3:Hid (dk gz z3)) (w:World) :
  Calls Tryz.prog 125 #[.agg (nl fu).toArray,.agg (nl fx++nl fz).toArray,.agg (nl gx++nl gz).toArray] w fun e w' =>
   ∃a b c d:Nat→Int,e = .returned (.tuple #[.agg (nl a++nl b).toArray,.agg (nl c++nl d).toArray])∧(dk a (stepL u (x2,z2) (x3,z3)).1.1∧dk b (stepL u (x2,z2) (x3,z3)).1.2∧dk c (stepL u (x2,z2) (x3,z3)).2.1∧dk d (stepL u (x2,z2) (x3,z3)).2.2)∧Below w.heap.size w w':=by
 obtain⟨W0,hW0⟩:∃W,((((w.alloc (.cells (nl fu).toArray 114)).alloc (.cells (nl fx++nl fz).toArray 152)).alloc (.cells (nl gx++nl gz).toArray 152)).alloc (.cells #[.int .i64 0,.int .i64 0,.int .i64 0,.int .i64 0,.int .i64 0,.int .i64 0,.int .i64 0,.int .i64 0,.int .i64 0,.int .i64 0,.int .i64 0,.int .i64 0,.int .i64 0,.int .i64 0,.int .i64 0,.int .i64 0,.int .i64 0,.int .i64 0,.int .i64 0,.int .i64 0] 152)).alloc (.cells #[.int .i64 0,.int .i64 0,.int .i64 0,.int .i64 0,.int .i64 0,.int .i64 0,.int .i64 0,.int .i64 0,.int .i64 0,.int .i64 0,.int .i64 0,.int .i64 0,.int .i64 0,.int .i64 0,.int .i64 0,.int .i64 0,.int .i64 0,.int .i64 0,.int .i64 0,.int .i64 0] 152)=W:=⟨_,rfl⟩
 have R0:Hid (Tr w W0 [(w.heap.size,0,nl fu),(w.heap.size+1,0,nl fx),(w.heap.size+1,10,nl fz),(w.heap.size+1+1,0,nl gx),(w.heap.size+1+1,10,nl gz)]):=step_start w W0 fu fx fz gx gz hW0
 go_enter Tryz.func125, Tryz.ntmps125
 obtain⟨m0,m1,m2,m3,m4,m5,m6,m7,m8,m9⟩:=cells0 (R0.out.1 (w.heap.size+1,0,nl fx) (by simp))
 obtain⟨n0,n1,n2,n3,n4,n5,n6,n7,n8,n9⟩:=cells10 (R0.out.1 (w.heap.size+1,10,nl fz) (by simp))
 go_wp2_with fail
 refine Calls.mono (kPlus fx fz x2 z2 hx2 hz2 _) ?_
 rintro e w1 ⟨c1,rfl,hd1,hb⟩
 obtain⟨A,hA⟩:∃zz,x2+z2=zz:=⟨_,rfl⟩
 rw[hA] at hd1
 have H1:Hid (dk c1 A):=hd1
 obtain⟨W1,hW1⟩:∃W,w1.alloc (.cells (nl c1).toArray 114)=W:=⟨_,rfl⟩
 have R1:Hid (Tr w W1 [(w1.heap.size,0,nl c1),(w.heap.size,0,nl fu),(w.heap.size+1,0,nl fx),(w.heap.size+1,10,nl fz),(w.heap.size+1+1,0,nl gx),(w.heap.size+1+1,10,nl gz)]):=by
  rw[←hW1]
  exact (R0.out.later hb).new _ _ (by rw[nl_len];decide)
 clear hd1 hb m0 m1 m2 m3 m4 m5 m6 m7 m8 m9 n0 n1 n2 n3 n4 n5 n6 n7 n8 n9 R0 hW0
 have st1:=store_new w1 c1 114
 obtain⟨m0,m1,m2,m3,m4,m5,m6,m7,m8,m9⟩:=cells0 (R1.out.1 (w.heap.size+1,0,nl fx) (by simp))
 obtain⟨n0,n1,n2,n3,n4,n5,n6,n7,n8,n9⟩:=cells10 (R1.out.1 (w.heap.size+1,10,nl fz) (by simp))
 go_wp2_with fail
 refine Calls.mono (kLess fx fz x2 z2 hx2 hz2 _) ?_
 rintro e w2 ⟨c2,rfl,hd2,hb⟩
 obtain⟨B,hB⟩:∃zz,x2 - z2=zz:=⟨_,rfl⟩
 rw[hB] at hd2
 have H2:Hid (dk c2 B):=hd2
 obtain⟨W2,hW2⟩:∃W,w2.alloc (.cells (nl c2).toArray 114)=W:=⟨_,rfl⟩
 have R2:Hid (Tr w W2 [(w2.heap.size,0,nl c2),(w1.heap.size,0,nl c1),(w.heap.size,0,nl fu),(w.heap.size+1,0,nl fx),(w.heap.size+1,10,nl fz),(w.heap.size+1+1,0,nl gx),(w.heap.size+1+1,10,nl gz)]):=by
  rw[←hW2]
  exact (R1.out.later hb).new _ _ (by rw[nl_len];decide)
 clear hd2 hb m0 m1 m2 m3 m4 m5 m6 m7 m8 m9 n0 n1 n2 n3 n4 n5 n6 n7 n8 n9 R1 st1 hW1
 have st2:=store_new w2 c2 114
 obtain⟨m0,m1,m2,m3,m4,m5,m6,m7,m8,m9⟩:=cells0 (R2.out.1 (w1.heap.size,0,nl c1) (by simp))
 go_wp2_with fail
 refine Calls.mono (kTimes c1 c1 A A H1 H1 _) ?_
 rintro e w3 ⟨c3,rfl,hd3,hb⟩
 obtain⟨AA,hAA⟩:∃zz,A*A=zz:=⟨_,rfl⟩
 rw[hAA] at hd3
 have H3:Hid (dk c3 AA):=hd3
 obtain⟨W3,hW3⟩:∃W,w3.alloc (.cells (nl c3).toArray 114)=W:=⟨_,rfl⟩
 have R3:Hid (Tr w W3 [(w3.heap.size,0,nl c3),(w2.heap.size,0,nl c2),(w1.heap.size,0,nl c1),(w.heap.size,0,nl fu),(w.heap.size+1,0,nl fx),(w.heap.size+1,10,nl fz),(w.heap.size+1+1,0,nl gx),(w.heap.size+1+1,10,nl gz)]):=by
  rw[←hW3]
  exact (R2.out.later hb).new _ _ (by rw[nl_len];decide)
 clear hd3 hb m0 m1 m2 m3 m4 m5 m6 m7 m8 m9 R2 st2 hW2
 have st3:=store_new w3 c3 114
 obtain⟨m0,m1,m2,m3,m4,m5,m6,m7,m8,m9⟩:=cells0 (R3.out.1 (w2.heap.size,0,nl c2) (by simp))
 go_wp2_with fail
 refine Calls.mono (kTimes c2 c2 B B H2 H2 _) ?_
 rintro e w4 ⟨c4,rfl,hd4,hb⟩
 obtain⟨BB,hBB⟩:∃zz,B*B=zz:=⟨_,rfl⟩
 rw[hBB] at hd4
 have H4:Hid (dk c4 BB):=hd4
 obtain⟨W4,hW4⟩:∃W,w4.alloc (.cells (nl c4).toArray 114)=W:=⟨_,rfl⟩
 have R4:Hid (Tr w W4 [(w4.heap.size,0,nl c4),(w3.heap.size,0,nl c3),(w2.heap.size,0,nl c2),(w1.heap.size,0,nl c1),(w.heap.size,0,nl fu),(w.heap.size+1,0,nl fx),(w.heap.size+1,10,nl fz),(w.heap.size+1+1,0,nl gx),(w.heap.size+1+1,10,nl gz)]):=by
  rw[←hW4]
  exact (R3.out.later hb).new _ _ (by rw[nl_len];decide)
 clear hd4 hb m0 m1 m2 m3 m4 m5 m6 m7 m8 m9 R3 st3 hW3
 have st4:=store_new w4 c4 114
 obtain⟨m0,m1,m2,m3,m4,m5,m6,m7,m8,m9⟩:=cells0 (R4.out.1 (w3.heap.size,0,nl c3) (by simp))
 obtain⟨n0,n1,n2,n3,n4,n5,n6,n7,n8,n9⟩:=cells0 (R4.out.1 (w4.heap.size,0,nl c4) (by simp))
 go_wp2_with fail
 refine Calls.mono (kLess c3 c4 AA BB H3 H4 _) ?_
 rintro e w5 ⟨c5,rfl,hd5,hb⟩
 obtain⟨EE,hEE⟩:∃zz,AA - BB=zz:=⟨_,rfl⟩
 rw[hEE] at hd5
 have H5:Hid (dk c5 EE):=hd5
 obtain⟨W5,hW5⟩:∃W,w5.alloc (.cells (nl c5).toArray 114)=W:=⟨_,rfl⟩
 have R5:Hid (Tr w W5 [(w5.heap.size,0,nl c5),(w4.heap.size,0,nl c4),(w3.heap.size,0,nl c3),(w2.heap.size,0,nl c2),(w1.heap.size,0,nl c1),(w.heap.size,0,nl fu),(w.heap.size+1,0,nl fx),(w.heap.size+1,10,nl fz),(w.heap.size+1+1,0,nl gx),(w.heap.size+1+1,10,nl gz)]):=by
  rw[←hW5]
  exact (R4.out.later hb).new _ _ (by rw[nl_len];decide)
 clear hd5 hb m0 m1 m2 m3 m4 m5 m6 m7 m8 m9 n0 n1 n2 n3 n4 n5 n6 n7 n8 n9 R4 st4 hW4
 have st5:=store_new w5 c5 114
 go_wp2_with fail
 clear st5 hW5
 go_cut [13] (fun s wx=>∃(b:Nat) (c:Nat→Int),s = .pointer (some ⟨b,0,none⟩)∧Hid (Tr w wx ((b,0,nl c)::[(w5.heap.size,0,nl c5),(w4.heap.size,0,nl c4),(w3.heap.size,0,nl c3),(w2.heap.size,0,nl c2),(w1.heap.size,0,nl c1),(w.heap.size,0,nl fu),(w.heap.size+1,0,nl fx),(w.heap.size+1,10,nl fz),(w.heap.size+1+1,0,nl gx),(w.heap.size+1+1,10,nl gz)])∧dk c ((x3 - z3)*A)))
 case first =>
  have sr:W5.heap.size≤W5.heap.size:=Nat.le_refl _
  refine wp_region_held_drew (S:=fun w'=>Trk w W5 w' [(w5.heap.size,0,nl c5),(w4.heap.size,0,nl c4),(w3.heap.size,0,nl c3),(w2.heap.size,0,nl c2),(w1.heap.size,0,nl c1),(w.heap.size,0,nl fu),(w.heap.size+1,0,nl fx),(w.heap.size+1,10,nl fz),(w.heap.size+1+1,0,nl gx),(w.heap.size+1+1,10,nl gz)]) (by kernel_rfl) ⟨R5.out.later (Below.refl _ _).drew,Nat.le_refl _⟩ (fun hHeld => ?_)
  refine wpAnyH_take (i:=0) (v := .pointer (some ⟨w.heap.size+1+1,0,none⟩)) rfl (by kernel_rfl) (by kernel_rfl) (by kernel_rfl) (fun _ _ _ h=>h) (Or.inl ⟨by rfl,fun w hSw=>by go_simp⟩) (by assumption) ?_
  skip
  refine wpAnyH_take (i:=1) (v := .agg (nl gx).toArray) rfl (by kernel_rfl) (by kernel_rfl) (by kernel_rfl) (fun _ _ _ h=>h) (yieldsIf_load_mid (by rfl) _ _ rfl (w.heap.size+1+1) 0 rfl (nl gx) _ (fun w' h=>h.1.1 (w.heap.size+1+1,0,nl gx) (by simp)) Tryz.underlying114 rfl sizeNum) (by assumption) ?_
  skip
  refine wpAnyH_take (i:=2) (v := .pointer (some ⟨w.heap.size+1+1,10,none⟩)) rfl (by kernel_rfl) (by kernel_rfl) (by kernel_rfl) (fun _ _ _ h=>h) (Or.inl ⟨by rfl,fun w hSw=>by go_simp⟩) (by assumption) ?_
  skip
  refine wpAnyH_take (i:=3) (v := .agg (nl gz).toArray) rfl (by kernel_rfl) (by kernel_rfl) (by kernel_rfl) (fun _ _ _ h=>h) (yieldsIf_load_mid (by rfl) _ _ rfl (w.heap.size+1+1) 10 rfl (nl gz) _ (fun w' h=>h.1.1 (w.heap.size+1+1,10,nl gz) (by simp)) Tryz.underlying114 rfl sizeNum) (by assumption) ?_
  skip
  refine wpAnyH_take (i:=5) (v := .agg (nl c1).toArray) rfl (by kernel_rfl) (by kernel_rfl) (by kernel_rfl) (fun _ _ _ h=>h) (yieldsIf_load_mid (by rfl) _ _ rfl (w1.heap.size) 0 rfl (nl c1) _ (fun w' h=>h.1.1 (w1.heap.size,0,nl c1) (by simp)) Tryz.underlying114 rfl sizeNum) (by assumption) ?_
  skip
  refine wpAnyH_ready (rs:=[4,7]) (by kernel_rfl) (by simp) ?_
  refine AllReadyH.cons rfl (fun K hK => ?_) ?_
  ·skip
   go_simp
   go_at_call 154
   refine Calls.mono (kLess gx gz x3 z3 hx3 hz3 _) ?_
   rintro e v6x0 ⟨d6x0,rfl,hv6x0,hb6x0⟩
   have sv0:W5.heap.size≤v6x0.heap.size:=(Trk.later hHeld hb6x0).2
   go_wp2_with fail
   refine hK.out _ _ (Trk.later hHeld hb6x0) (fun hHeld => ?_)
   clear hK K
   skip
   refine wpAnyH_ready (rs:=[6,7]) (by kernel_rfl) (by simp) ?_
   refine AllReadyH.cons rfl (fun K hK => ?_) ?_
   ·skip
    go_simp
    go_at_call 123
    refine Calls.mono (kTimes d6x0 c1 (x3 - z3) A hv6x0 H1 _) ?_
    rintro e v6x1 ⟨d6x1,rfl,hv6x1,hb6x1⟩
    have sv1:W5.heap.size≤v6x1.heap.size:=(Trk.later hHeld hb6x1).2
    go_wp2_with fail
    refine hK.out _ _ (Trk.later hHeld hb6x1) (fun hHeld => ?_)
    clear hK K
    skip
    refine wpAnyH_ready (rs:=[7]) (by kernel_rfl) (by simp) ?_
    refine AllReadyH.cons rfl (fun K hK => ?_) AllReadyH.nil
    go_simp
    refine hK.out _ _ (Trk.later hHeld ((Below.refl _ _).alloc (Nat.le_refl _) _)) (fun hHeld => ?_)
    clear hK K
    skip
    refine wpAnyH_ready (rs:=[8]) (by kernel_rfl) (by simp) ?_
    refine AllReadyH.cons rfl (fun K hK => ?_) AllReadyH.nil
    rw[if_pos (by rfl)]
    have th:=(there10 v6x1 114)
    refine wp_store_mid _ _ _ rfl _ _ (nl d6x1).toArray rfl rfl th sizeNum (all_oneCell_toArray (nl_one d6x1)) ?_
    refine hK.out _ _ (Trk.put R5.out hHeld sv1 _) (fun hHeld => ?_)
    clear hK K
    skip
    refine wpAnyH_done (by kernel_rfl) ?_ _
    go_wp2_with fail
    go_meet
    case rel=>exact⟨_,d6x1,rfl,Tr.add hHeld.1 (World.rangeAt_setCells_same _ _ _ _ th) (by rw[nl_len];decide),hv6x1⟩
   refine AllReadyH.cons rfl (fun K hK => ?_) AllReadyH.nil
   go_simp
   refine hK.out _ _ (Trk.later hHeld ((Below.refl _ _).alloc (Nat.le_refl _) _)) (fun hHeld => ?_)
   clear hK K
   skip
   refine wpAnyH_ready (rs:=[6]) (by kernel_rfl) (by simp) ?_
   refine AllReadyH.cons rfl (fun K hK => ?_) AllReadyH.nil
   go_simp
   go_at_call 123
   refine Calls.mono (kTimes d6x0 c1 (x3 - z3) A hv6x0 H1 _) ?_
   rintro e v6x1 ⟨d6x1,rfl,hv6x1,hb6x1⟩
   have sv1:W5.heap.size≤v6x1.heap.size:=(Trk.later hHeld hb6x1).2
   go_wp2_with fail
   refine hK.out _ _ (Trk.later hHeld hb6x1) (fun hHeld => ?_)
   clear hK K
   skip
   refine wpAnyH_ready (rs:=[8]) (by kernel_rfl) (by simp) ?_
   refine AllReadyH.cons rfl (fun K hK => ?_) AllReadyH.nil
   rw[if_pos (by rfl)]
   have th:=(there_later (there10 v6x0 114) hb6x1)
   refine wp_store_mid _ _ _ rfl _ _ (nl d6x1).toArray rfl rfl th sizeNum (all_oneCell_toArray (nl_one d6x1)) ?_
   refine hK.out _ _ (Trk.put R5.out hHeld sv0 _) (fun hHeld => ?_)
   clear hK K
   skip
   refine wpAnyH_done (by kernel_rfl) ?_ _
   go_wp2_with fail
   go_meet
   case rel=>exact⟨_,d6x1,rfl,Tr.add hHeld.1 (World.rangeAt_setCells_same _ _ _ _ th) (by rw[nl_len];decide),hv6x1⟩
  refine AllReadyH.cons rfl (fun K hK => ?_) AllReadyH.nil
  go_simp
  refine hK.out _ _ (Trk.later hHeld ((Below.refl _ _).alloc (Nat.le_refl _) _)) (fun hHeld => ?_)
  clear hK K
  skip
  refine wpAnyH_ready (rs:=[4]) (by kernel_rfl) (by simp) ?_
  refine AllReadyH.cons rfl (fun K hK => ?_) AllReadyH.nil
  go_simp
  go_at_call 154
  refine Calls.mono (kLess gx gz x3 z3 hx3 hz3 _) ?_
  rintro e v6x0 ⟨d6x0,rfl,hv6x0,hb6x0⟩
  have sv0:W5.heap.size≤v6x0.heap.size:=(Trk.later hHeld hb6x0).2
  go_wp2_with fail
  refine hK.out _ _ (Trk.later hHeld hb6x0) (fun hHeld => ?_)
  clear hK K
  skip
  refine wpAnyH_ready (rs:=[6]) (by kernel_rfl) (by simp) ?_
  refine AllReadyH.cons rfl (fun K hK => ?_) AllReadyH.nil
  go_simp
  go_at_call 123
  refine Calls.mono (kTimes d6x0 c1 (x3 - z3) A hv6x0 H1 _) ?_
  rintro e v6x1 ⟨d6x1,rfl,hv6x1,hb6x1⟩
  have sv1:W5.heap.size≤v6x1.heap.size:=(Trk.later hHeld hb6x1).2
  go_wp2_with fail
  refine hK.out _ _ (Trk.later hHeld hb6x1) (fun hHeld => ?_)
  clear hK K
  skip
  refine wpAnyH_ready (rs:=[8]) (by kernel_rfl) (by simp) ?_
  refine AllReadyH.cons rfl (fun K hK => ?_) AllReadyH.nil
  rw[if_pos (by rfl)]
  have th:=(there_later (there_later ((World.there_drew _ _ _ _).2 (there10 W5 114)) hb6x0) hb6x1)
  refine wp_store_mid _ _ _ rfl _ _ (nl d6x1).toArray rfl rfl th sizeNum (all_oneCell_toArray (nl_one d6x1)) ?_
  refine hK.out _ _ (Trk.put R5.out hHeld sr _) (fun hHeld => ?_)
  clear hK K
  skip
  refine wpAnyH_done (by kernel_rfl) ?_ _
  go_wp2_with fail
  go_meet
  case rel=>exact⟨_,d6x1,rfl,Tr.add hHeld.1 (World.rangeAt_setCells_same _ _ _ _ th) (by rw[nl_len];decide),hv6x1⟩
 case rest =>
  obtain⟨b6,c6,rfl,HC6⟩:=hcut
  have R6:Hid (Tr w wc [(b6,0,nl c6),(w5.heap.size,0,nl c5),(w4.heap.size,0,nl c4),(w3.heap.size,0,nl c3),(w2.heap.size,0,nl c2),(w1.heap.size,0,nl c1),(w.heap.size,0,nl fu),(w.heap.size+1,0,nl fx),(w.heap.size+1,10,nl fz),(w.heap.size+1+1,0,nl gx),(w.heap.size+1+1,10,nl gz)]):=HC6.out.1
  obtain⟨DA,hDA⟩:∃zz,((x3 - z3)*A)=zz:=⟨_,rfl⟩
  have H6:Hid (dk c6 DA):=by rw[←hDA];exact HC6.out.2
  clear HC6 R5
  obtain⟨W6,hW6⟩:∃W,wc=W:=⟨_,rfl⟩
  rw[hW6] at R6 ⊢
  clear hW6 wc
  go_wp2_with fail
  go_cut [14] (fun s wx=>∃(b:Nat) (c:Nat→Int),s = .pointer (some ⟨b,0,none⟩)∧Hid (Tr w wx ((b,0,nl c)::[(b6,0,nl c6),(w5.heap.size,0,nl c5),(w4.heap.size,0,nl c4),(w3.heap.size,0,nl c3),(w2.heap.size,0,nl c2),(w1.heap.size,0,nl c1),(w.heap.size,0,nl fu),(w.heap.size+1,0,nl fx),(w.heap.size+1,10,nl fz),(w.heap.size+1+1,0,nl gx),(w.heap.size+1+1,10,nl gz)])∧dk c ((x3+z3)*B)))
  case first =>
   have sr:W6.heap.size≤W6.heap.size:=Nat.le_refl _
   refine wp_region_held_drew (S:=fun w'=>Trk w W6 w' [(b6,0,nl c6),(w5.heap.size,0,nl c5),(w4.heap.size,0,nl c4),(w3.heap.size,0,nl c3),(w2.heap.size,0,nl c2),(w1.heap.size,0,nl c1),(w.heap.size,0,nl fu),(w.heap.size+1,0,nl fx),(w.heap.size+1,10,nl fz),(w.heap.size+1+1,0,nl gx),(w.heap.size+1+1,10,nl gz)]) (by kernel_rfl) ⟨R6.out.later (Below.refl _ _).drew,Nat.le_refl _⟩ (fun hHeld => ?_)
   refine wpAnyH_take (i:=0) (v := .pointer (some ⟨w.heap.size+1+1,0,none⟩)) rfl (by kernel_rfl) (by kernel_rfl) (by kernel_rfl) (fun _ _ _ h=>h) (Or.inl ⟨by rfl,fun w hSw=>by go_simp⟩) (by assumption) ?_
   skip
   refine wpAnyH_take (i:=1) (v := .agg (nl gx).toArray) rfl (by kernel_rfl) (by kernel_rfl) (by kernel_rfl) (fun _ _ _ h=>h) (yieldsIf_load_mid (by rfl) _ _ rfl (w.heap.size+1+1) 0 rfl (nl gx) _ (fun w' h=>h.1.1 (w.heap.size+1+1,0,nl gx) (by simp)) Tryz.underlying114 rfl sizeNum) (by assumption) ?_
   skip
   refine wpAnyH_take (i:=2) (v := .pointer (some ⟨w.heap.size+1+1,10,none⟩)) rfl (by kernel_rfl) (by kernel_rfl) (by kernel_rfl) (fun _ _ _ h=>h) (Or.inl ⟨by rfl,fun w hSw=>by go_simp⟩) (by assumption) ?_
   skip
   refine wpAnyH_take (i:=3) (v := .agg (nl gz).toArray) rfl (by kernel_rfl) (by kernel_rfl) (by kernel_rfl) (fun _ _ _ h=>h) (yieldsIf_load_mid (by rfl) _ _ rfl (w.heap.size+1+1) 10 rfl (nl gz) _ (fun w' h=>h.1.1 (w.heap.size+1+1,10,nl gz) (by simp)) Tryz.underlying114 rfl sizeNum) (by assumption) ?_
   skip
   refine wpAnyH_take (i:=5) (v := .agg (nl c2).toArray) rfl (by kernel_rfl) (by kernel_rfl) (by kernel_rfl) (fun _ _ _ h=>h) (yieldsIf_load_mid (by rfl) _ _ rfl (w2.heap.size) 0 rfl (nl c2) _ (fun w' h=>h.1.1 (w2.heap.size,0,nl c2) (by simp)) Tryz.underlying114 rfl sizeNum) (by assumption) ?_
   skip
   refine wpAnyH_ready (rs:=[4,7]) (by kernel_rfl) (by simp) ?_
   refine AllReadyH.cons rfl (fun K hK => ?_) ?_
   ·skip
    go_simp
    go_at_call 122
    refine Calls.mono (kPlus gx gz x3 z3 hx3 hz3 _) ?_
    rintro e v7x0 ⟨d7x0,rfl,hv7x0,hb7x0⟩
    have sv0:W6.heap.size≤v7x0.heap.size:=(Trk.later hHeld hb7x0).2
    go_wp2_with fail
    refine hK.out _ _ (Trk.later hHeld hb7x0) (fun hHeld => ?_)
    clear hK K
    skip
    refine wpAnyH_ready (rs:=[6,7]) (by kernel_rfl) (by simp) ?_
    refine AllReadyH.cons rfl (fun K hK => ?_) ?_
    ·skip
     go_simp
     go_at_call 123
     refine Calls.mono (kTimes d7x0 c2 (x3+z3) B hv7x0 H2 _) ?_
     rintro e v7x1 ⟨d7x1,rfl,hv7x1,hb7x1⟩
     have sv1:W6.heap.size≤v7x1.heap.size:=(Trk.later hHeld hb7x1).2
     go_wp2_with fail
     refine hK.out _ _ (Trk.later hHeld hb7x1) (fun hHeld => ?_)
     clear hK K
     skip
     refine wpAnyH_ready (rs:=[7]) (by kernel_rfl) (by simp) ?_
     refine AllReadyH.cons rfl (fun K hK => ?_) AllReadyH.nil
     go_simp
     refine hK.out _ _ (Trk.later hHeld ((Below.refl _ _).alloc (Nat.le_refl _) _)) (fun hHeld => ?_)
     clear hK K
     skip
     refine wpAnyH_ready (rs:=[8]) (by kernel_rfl) (by simp) ?_
     refine AllReadyH.cons rfl (fun K hK => ?_) AllReadyH.nil
     rw[if_pos (by rfl)]
     have th:=(there10 v7x1 114)
     refine wp_store_mid _ _ _ rfl _ _ (nl d7x1).toArray rfl rfl th sizeNum (all_oneCell_toArray (nl_one d7x1)) ?_
     refine hK.out _ _ (Trk.put R6.out hHeld sv1 _) (fun hHeld => ?_)
     clear hK K
     skip
     refine wpAnyH_done (by kernel_rfl) ?_ _
     go_wp2_with fail
     go_meet
     case rel=>exact⟨_,d7x1,rfl,Tr.add hHeld.1 (World.rangeAt_setCells_same _ _ _ _ th) (by rw[nl_len];decide),hv7x1⟩
    refine AllReadyH.cons rfl (fun K hK => ?_) AllReadyH.nil
    go_simp
    refine hK.out _ _ (Trk.later hHeld ((Below.refl _ _).alloc (Nat.le_refl _) _)) (fun hHeld => ?_)
    clear hK K
    skip
    refine wpAnyH_ready (rs:=[6]) (by kernel_rfl) (by simp) ?_
    refine AllReadyH.cons rfl (fun K hK => ?_) AllReadyH.nil
    go_simp
    go_at_call 123
    refine Calls.mono (kTimes d7x0 c2 (x3+z3) B hv7x0 H2 _) ?_
    rintro e v7x1 ⟨d7x1,rfl,hv7x1,hb7x1⟩
    have sv1:W6.heap.size≤v7x1.heap.size:=(Trk.later hHeld hb7x1).2
    go_wp2_with fail
    refine hK.out _ _ (Trk.later hHeld hb7x1) (fun hHeld => ?_)
    clear hK K
    skip
    refine wpAnyH_ready (rs:=[8]) (by kernel_rfl) (by simp) ?_
    refine AllReadyH.cons rfl (fun K hK => ?_) AllReadyH.nil
    rw[if_pos (by rfl)]
    have th:=(there_later (there10 v7x0 114) hb7x1)
    refine wp_store_mid _ _ _ rfl _ _ (nl d7x1).toArray rfl rfl th sizeNum (all_oneCell_toArray (nl_one d7x1)) ?_
    refine hK.out _ _ (Trk.put R6.out hHeld sv0 _) (fun hHeld => ?_)
    clear hK K
    skip
    refine wpAnyH_done (by kernel_rfl) ?_ _
    go_wp2_with fail
    go_meet
    case rel=>exact⟨_,d7x1,rfl,Tr.add hHeld.1 (World.rangeAt_setCells_same _ _ _ _ th) (by rw[nl_len];decide),hv7x1⟩
   refine AllReadyH.cons rfl (fun K hK => ?_) AllReadyH.nil
   go_simp
   refine hK.out _ _ (Trk.later hHeld ((Below.refl _ _).alloc (Nat.le_refl _) _)) (fun hHeld => ?_)
   clear hK K
   skip
   refine wpAnyH_ready (rs:=[4]) (by kernel_rfl) (by simp) ?_
   refine AllReadyH.cons rfl (fun K hK => ?_) AllReadyH.nil
   go_simp
   go_at_call 122
   refine Calls.mono (kPlus gx gz x3 z3 hx3 hz3 _) ?_
   rintro e v7x0 ⟨d7x0,rfl,hv7x0,hb7x0⟩
   have sv0:W6.heap.size≤v7x0.heap.size:=(Trk.later hHeld hb7x0).2
   go_wp2_with fail
   refine hK.out _ _ (Trk.later hHeld hb7x0) (fun hHeld => ?_)
   clear hK K
   skip
   refine wpAnyH_ready (rs:=[6]) (by kernel_rfl) (by simp) ?_
   refine AllReadyH.cons rfl (fun K hK => ?_) AllReadyH.nil
   go_simp
   go_at_call 123
   refine Calls.mono (kTimes d7x0 c2 (x3+z3) B hv7x0 H2 _) ?_
   rintro e v7x1 ⟨d7x1,rfl,hv7x1,hb7x1⟩
   have sv1:W6.heap.size≤v7x1.heap.size:=(Trk.later hHeld hb7x1).2
   go_wp2_with fail
   refine hK.out _ _ (Trk.later hHeld hb7x1) (fun hHeld => ?_)
   clear hK K
   skip
   refine wpAnyH_ready (rs:=[8]) (by kernel_rfl) (by simp) ?_
   refine AllReadyH.cons rfl (fun K hK => ?_) AllReadyH.nil
   rw[if_pos (by rfl)]
   have th:=(there_later (there_later ((World.there_drew _ _ _ _).2 (there10 W6 114)) hb7x0) hb7x1)
   refine wp_store_mid _ _ _ rfl _ _ (nl d7x1).toArray rfl rfl th sizeNum (all_oneCell_toArray (nl_one d7x1)) ?_
   refine hK.out _ _ (Trk.put R6.out hHeld sr _) (fun hHeld => ?_)
   clear hK K
   skip
   refine wpAnyH_done (by kernel_rfl) ?_ _
   go_wp2_with fail
   go_meet
   case rel=>exact⟨_,d7x1,rfl,Tr.add hHeld.1 (World.rangeAt_setCells_same _ _ _ _ th) (by rw[nl_len];decide),hv7x1⟩
  case rest =>
   obtain⟨b7,c7,rfl,HC7⟩:=hcut
   have R7:Hid (Tr w wc [(b7,0,nl c7),(b6,0,nl c6),(w5.heap.size,0,nl c5),(w4.heap.size,0,nl c4),(w3.heap.size,0,nl c3),(w2.heap.size,0,nl c2),(w1.heap.size,0,nl c1),(w.heap.size,0,nl fu),(w.heap.size+1,0,nl fx),(w.heap.size+1,10,nl fz),(w.heap.size+1+1,0,nl gx),(w.heap.size+1+1,10,nl gz)]):=HC7.out.1
   obtain⟨CB,hCB⟩:∃zz,((x3+z3)*B)=zz:=⟨_,rfl⟩
   have H7:Hid (dk c7 CB):=by rw[←hCB];exact HC7.out.2
   clear HC7 R6
   obtain⟨W7,hW7⟩:∃W,wc=W:=⟨_,rfl⟩
   rw[hW7] at R7 ⊢
   clear hW7 wc
   obtain⟨m0,m1,m2,m3,m4,m5,m6,m7,m8,m9⟩:=cells0 (R7.out.1 (b6,0,nl c6) (by simp))
   obtain⟨n0,n1,n2,n3,n4,n5,n6,n7,n8,n9⟩:=cells0 (R7.out.1 (b7,0,nl c7) (by simp))
   go_wp2_with fail
   refine Calls.mono (kPlus c6 c7 DA CB H6 H7 _) ?_
   rintro e w8 ⟨c8,rfl,hd8,hb⟩
   obtain⟨S,hS⟩:∃zz,DA+CB=zz:=⟨_,rfl⟩
   rw[hS] at hd8
   have H8:Hid (dk c8 S):=hd8
   obtain⟨W8,hW8⟩:∃W,w8.alloc (.cells (nl c8).toArray 114)=W:=⟨_,rfl⟩
   have R8:Hid (Tr w W8 [(w8.heap.size,0,nl c8),(b7,0,nl c7),(b6,0,nl c6),(w5.heap.size,0,nl c5),(w4.heap.size,0,nl c4),(w3.heap.size,0,nl c3),(w2.heap.size,0,nl c2),(w1.heap.size,0,nl c1),(w.heap.size,0,nl fu),(w.heap.size+1,0,nl fx),(w.heap.size+1,10,nl fz),(w.heap.size+1+1,0,nl gx),(w.heap.size+1+1,10,nl gz)]):=by
    rw[←hW8]
    exact (R7.out.later hb).new _ _ (by rw[nl_len];decide)
   clear hd8 hb m0 m1 m2 m3 m4 m5 m6 m7 m8 m9 n0 n1 n2 n3 n4 n5 n6 n7 n8 n9 R7 
   have st8:=store_new w8 c8 114
   obtain⟨m0,m1,m2,m3,m4,m5,m6,m7,m8,m9⟩:=cells0 (R8.out.1 (b6,0,nl c6) (by simp))
   obtain⟨n0,n1,n2,n3,n4,n5,n6,n7,n8,n9⟩:=cells0 (R8.out.1 (b7,0,nl c7) (by simp))
   go_wp2_with fail
   refine Calls.mono (kLess c6 c7 DA CB H6 H7 _) ?_
   rintro e w9 ⟨c9,rfl,hd9,hb⟩
   obtain⟨D,hD⟩:∃zz,DA - CB=zz:=⟨_,rfl⟩
   rw[hD] at hd9
   have H9:Hid (dk c9 D):=hd9
   obtain⟨W9,hW9⟩:∃W,w9.alloc (.cells (nl c9).toArray 114)=W:=⟨_,rfl⟩
   have R9:Hid (Tr w W9 [(w9.heap.size,0,nl c9),(w8.heap.size,0,nl c8),(b7,0,nl c7),(b6,0,nl c6),(w5.heap.size,0,nl c5),(w4.heap.size,0,nl c4),(w3.heap.size,0,nl c3),(w2.heap.size,0,nl c2),(w1.heap.size,0,nl c1),(w.heap.size,0,nl fu),(w.heap.size+1,0,nl fx),(w.heap.size+1,10,nl fz),(w.heap.size+1+1,0,nl gx),(w.heap.size+1+1,10,nl gz)]):=by
    rw[←hW9]
    exact (R8.out.later hb).new _ _ (by rw[nl_len];decide)
   clear hd9 hb m0 m1 m2 m3 m4 m5 m6 m7 m8 m9 n0 n1 n2 n3 n4 n5 n6 n7 n8 n9 R8 st8 hW8
   have st9:=store_new w9 c9 114
   go_wp2_with fail
   clear st9 hW9
   go_cut [17] (fun s wx=>∃(b:Nat) (c c':Nat→Int),s = .pointer (some ⟨b,0,none⟩)∧Hid ((w.heap.size+1+1+1+1) < b∧Tr w wx ((b,0,nl c++nl c')::[(w9.heap.size,0,nl c9),(w8.heap.size,0,nl c8),(b7,0,nl c7),(b6,0,nl c6),(w5.heap.size,0,nl c5),(w4.heap.size,0,nl c4),(w3.heap.size,0,nl c3),(w2.heap.size,0,nl c2),(w1.heap.size,0,nl c1),(w.heap.size,0,nl fu),(w.heap.size+1,0,nl fx),(w.heap.size+1,10,nl fz),(w.heap.size+1+1,0,nl gx),(w.heap.size+1+1,10,nl gz)])∧dk c (S*S)∧dk c' (u*(D*D))))
   case first =>
    have sr:W9.heap.size≤W9.heap.size:=Nat.le_refl _
    refine wp_region_held_drew (S:=fun w'=>Trk w W9 w' [(w9.heap.size,0,nl c9),(w8.heap.size,0,nl c8),(b7,0,nl c7),(b6,0,nl c6),(w5.heap.size,0,nl c5),(w4.heap.size,0,nl c4),(w3.heap.size,0,nl c3),(w2.heap.size,0,nl c2),(w1.heap.size,0,nl c1),(w.heap.size,0,nl fu),(w.heap.size+1,0,nl fx),(w.heap.size+1,10,nl fz),(w.heap.size+1+1,0,nl gx),(w.heap.size+1+1,10,nl gz)]) (by kernel_rfl) ⟨R9.out.later (Below.refl _ _).drew,Nat.le_refl _⟩ (fun hHeld => ?_)
    refine wpAnyH_take (i:=0) (v := .agg (nl c8).toArray) rfl (by kernel_rfl) (by kernel_rfl) (by kernel_rfl) (fun _ _ _ h=>h) (yieldsIf_load_mid (by rfl) _ _ rfl (w8.heap.size) 0 rfl (nl c8) _ (fun w' h=>h.1.1 (w8.heap.size,0,nl c8) (by simp)) Tryz.underlying114 rfl sizeNum) (by assumption) ?_
    skip
    refine wpAnyH_take (i:=1) (v := .agg (nl c8).toArray) rfl (by kernel_rfl) (by kernel_rfl) (by kernel_rfl) (fun _ _ _ h=>h) (yieldsIf_load_mid (by rfl) _ _ rfl (w8.heap.size) 0 rfl (nl c8) _ (fun w' h=>h.1.1 (w8.heap.size,0,nl c8) (by simp)) Tryz.underlying114 rfl sizeNum) (by assumption) ?_
    skip
    refine wpAnyH_take (i:=3) (v := .agg (nl fu).toArray) rfl (by kernel_rfl) (by kernel_rfl) (by kernel_rfl) (fun _ _ _ h=>h) (yieldsIf_load_mid (by rfl) _ _ rfl (w.heap.size) 0 rfl (nl fu) _ (fun w' h=>h.1.1 (w.heap.size,0,nl fu) (by simp)) Tryz.underlying114 rfl sizeNum) (by assumption) ?_
    skip
    refine wpAnyH_take (i:=4) (v := .agg (nl c9).toArray) rfl (by kernel_rfl) (by kernel_rfl) (by kernel_rfl) (fun _ _ _ h=>h) (yieldsIf_load_mid (by rfl) _ _ rfl (w9.heap.size) 0 rfl (nl c9) _ (fun w' h=>h.1.1 (w9.heap.size,0,nl c9) (by simp)) Tryz.underlying114 rfl sizeNum) (by assumption) ?_
    skip
    refine wpAnyH_take (i:=5) (v := .agg (nl c9).toArray) rfl (by kernel_rfl) (by kernel_rfl) (by kernel_rfl) (fun _ _ _ h=>h) (yieldsIf_load_mid (by rfl) _ _ rfl (w9.heap.size) 0 rfl (nl c9) _ (fun w' h=>h.1.1 (w9.heap.size,0,nl c9) (by simp)) Tryz.underlying114 rfl sizeNum) (by assumption) ?_
    skip
    refine wpAnyH_ready (rs:=[2,9]) (by kernel_rfl) (by simp) ?_
    refine AllReadyH.cons rfl (fun K hK => ?_) ?_
    ·skip
     go_simp
     go_at_call 123
     refine Calls.mono (kTimes c8 c8 S S H8 H8 _) ?_
     rintro e v10x0 ⟨d10x0,rfl,hv10x0,hb10x0⟩
     have sv0:W9.heap.size≤v10x0.heap.size:=(Trk.later hHeld hb10x0).2
     go_wp2_with fail
     refine hK.out _ _ (Trk.later hHeld hb10x0) (fun hHeld => ?_)
     clear hK K
     skip
     refine wpAnyH_ready (rs:=[6,9]) (by kernel_rfl) (by simp) ?_
     refine AllReadyH.cons rfl (fun K hK => ?_) ?_
     ·skip
      go_simp
      go_at_call 123
      refine Calls.mono (kTimes c9 c9 D D H9 H9 _) ?_
      rintro e v10x1 ⟨d10x1,rfl,hv10x1,hb10x1⟩
      have sv1:W9.heap.size≤v10x1.heap.size:=(Trk.later hHeld hb10x1).2
      go_wp2_with fail
      refine hK.out _ _ (Trk.later hHeld hb10x1) (fun hHeld => ?_)
      clear hK K
      skip
      refine wpAnyH_ready (rs:=[7,9]) (by kernel_rfl) (by simp) ?_
      refine AllReadyH.cons rfl (fun K hK => ?_) ?_
      ·skip
       go_simp
       go_at_call 123
       refine Calls.mono (kTimes fu d10x1 u (D*D) hu hv10x1 _) ?_
       rintro e v10x2 ⟨d10x2,rfl,hv10x2,hb10x2⟩
       have sv2:W9.heap.size≤v10x2.heap.size:=(Trk.later hHeld hb10x2).2
       go_wp2_with fail
       refine hK.out _ _ (Trk.later hHeld hb10x2) (fun hHeld => ?_)
       clear hK K
       skip
       refine wpAnyH_take (i:=8) (v := .agg (nl d10x0++nl d10x2).toArray) rfl (by kernel_rfl) (by kernel_rfl) (by kernel_rfl) (fun _ _ _ h=>h) (Or.inl ⟨by rfl,fun w hSw=>by kernel_rfl⟩) (by assumption) ?_
       skip
       refine wpAnyH_ready (rs:=[9]) (by kernel_rfl) (by simp) ?_
       refine AllReadyH.cons rfl (fun K hK => ?_) AllReadyH.nil
       go_simp
       refine hK.out _ _ (Trk.later hHeld ((Below.refl _ _).alloc (Nat.le_refl _) _)) (fun hHeld => ?_)
       clear hK K
       skip
       refine wpAnyH_ready (rs:=[10]) (by kernel_rfl) (by simp) ?_
       refine AllReadyH.cons rfl (fun K hK => ?_) AllReadyH.nil
       rw[if_pos (by rfl)]
       have th:=(there20 v10x2 152)
       refine wp_store_mid _ _ _ rfl _ _ (nl d10x0++nl d10x2).toArray rfl rfl th sizePair (all_oneCell_toArray (fun v hv=>(List.mem_append.1 hv).elim (nl_one _ v) (nl_one _ v))) ?_
       refine hK.out _ _ (Trk.put R9.out hHeld sv2 _) (fun hHeld => ?_)
       clear hK K
       skip
       refine wpAnyH_done (by kernel_rfl) ?_ _
       go_wp2_with fail
       go_meet
       case rel=>exact⟨_,d10x0,d10x2,rfl,Nat.lt_of_lt_of_le R9.out.2.2.2.2.2 sv2,Tr.add hHeld.1 (World.rangeAt_setCells_same _ _ _ _ th) (by rw[List.length_append,nl_len,nl_len];decide),hv10x0,hv10x2⟩
      refine AllReadyH.cons rfl (fun K hK => ?_) AllReadyH.nil
      go_simp
      refine hK.out _ _ (Trk.later hHeld ((Below.refl _ _).alloc (Nat.le_refl _) _)) (fun hHeld => ?_)
      clear hK K
      skip
      refine wpAnyH_ready (rs:=[7]) (by kernel_rfl) (by simp) ?_
      refine AllReadyH.cons rfl (fun K hK => ?_) AllReadyH.nil
      go_simp
      go_at_call 123
      refine Calls.mono (kTimes fu d10x1 u (D*D) hu hv10x1 _) ?_
      rintro e v10x2 ⟨d10x2,rfl,hv10x2,hb10x2⟩
      have sv2:W9.heap.size≤v10x2.heap.size:=(Trk.later hHeld hb10x2).2
      go_wp2_with fail
      refine hK.out _ _ (Trk.later hHeld hb10x2) (fun hHeld => ?_)
      clear hK K
      skip
      refine wpAnyH_take (i:=8) (v := .agg (nl d10x0++nl d10x2).toArray) rfl (by kernel_rfl) (by kernel_rfl) (by kernel_rfl) (fun _ _ _ h=>h) (Or.inl ⟨by rfl,fun w hSw=>by kernel_rfl⟩) (by assumption) ?_
      skip
      refine wpAnyH_ready (rs:=[10]) (by kernel_rfl) (by simp) ?_
      refine AllReadyH.cons rfl (fun K hK => ?_) AllReadyH.nil
      rw[if_pos (by rfl)]
      have th:=(there_later (there20 v10x1 152) hb10x2)
      refine wp_store_mid _ _ _ rfl _ _ (nl d10x0++nl d10x2).toArray rfl rfl th sizePair (all_oneCell_toArray (fun v hv=>(List.mem_append.1 hv).elim (nl_one _ v) (nl_one _ v))) ?_
      refine hK.out _ _ (Trk.put R9.out hHeld sv1 _) (fun hHeld => ?_)
      clear hK K
      skip
      refine wpAnyH_done (by kernel_rfl) ?_ _
      go_wp2_with fail
      go_meet
      case rel=>exact⟨_,d10x0,d10x2,rfl,Nat.lt_of_lt_of_le R9.out.2.2.2.2.2 sv1,Tr.add hHeld.1 (World.rangeAt_setCells_same _ _ _ _ th) (by rw[List.length_append,nl_len,nl_len];decide),hv10x0,hv10x2⟩
     refine AllReadyH.cons rfl (fun K hK => ?_) AllReadyH.nil
     go_simp
     refine hK.out _ _ (Trk.later hHeld ((Below.refl _ _).alloc (Nat.le_refl _) _)) (fun hHeld => ?_)
     clear hK K
     skip
     refine wpAnyH_ready (rs:=[6]) (by kernel_rfl) (by simp) ?_
     refine AllReadyH.cons rfl (fun K hK => ?_) AllReadyH.nil
     go_simp
     go_at_call 123
     refine Calls.mono (kTimes c9 c9 D D H9 H9 _) ?_
     rintro e v10x1 ⟨d10x1,rfl,hv10x1,hb10x1⟩
     have sv1:W9.heap.size≤v10x1.heap.size:=(Trk.later hHeld hb10x1).2
     go_wp2_with fail
     refine hK.out _ _ (Trk.later hHeld hb10x1) (fun hHeld => ?_)
     clear hK K
     skip
     refine wpAnyH_ready (rs:=[7]) (by kernel_rfl) (by simp) ?_
     refine AllReadyH.cons rfl (fun K hK => ?_) AllReadyH.nil
     go_simp
     go_at_call 123
     refine Calls.mono (kTimes fu d10x1 u (D*D) hu hv10x1 _) ?_
     rintro e v10x2 ⟨d10x2,rfl,hv10x2,hb10x2⟩
     have sv2:W9.heap.size≤v10x2.heap.size:=(Trk.later hHeld hb10x2).2
     go_wp2_with fail
     refine hK.out _ _ (Trk.later hHeld hb10x2) (fun hHeld => ?_)
     clear hK K
     skip
     refine wpAnyH_take (i:=8) (v := .agg (nl d10x0++nl d10x2).toArray) rfl (by kernel_rfl) (by kernel_rfl) (by kernel_rfl) (fun _ _ _ h=>h) (Or.inl ⟨by rfl,fun w hSw=>by kernel_rfl⟩) (by assumption) ?_
     skip
     refine wpAnyH_ready (rs:=[10]) (by kernel_rfl) (by simp) ?_
     refine AllReadyH.cons rfl (fun K hK => ?_) AllReadyH.nil
     rw[if_pos (by rfl)]
     have th:=(there_later (there_later (there20 v10x0 152) hb10x1) hb10x2)
     refine wp_store_mid _ _ _ rfl _ _ (nl d10x0++nl d10x2).toArray rfl rfl th sizePair (all_oneCell_toArray (fun v hv=>(List.mem_append.1 hv).elim (nl_one _ v) (nl_one _ v))) ?_
     refine hK.out _ _ (Trk.put R9.out hHeld sv0 _) (fun hHeld => ?_)
     clear hK K
     skip
     refine wpAnyH_done (by kernel_rfl) ?_ _
     go_wp2_with fail
     go_meet
     case rel=>exact⟨_,d10x0,d10x2,rfl,Nat.lt_of_lt_of_le R9.out.2.2.2.2.2 sv0,Tr.add hHeld.1 (World.rangeAt_setCells_same _ _ _ _ th) (by rw[List.length_append,nl_len,nl_len];decide),hv10x0,hv10x2⟩
    refine AllReadyH.cons rfl (fun K hK => ?_) AllReadyH.nil
    go_simp
    refine hK.out _ _ (Trk.later hHeld ((Below.refl _ _).alloc (Nat.le_refl _) _)) (fun hHeld => ?_)
    clear hK K
    skip
    refine wpAnyH_ready (rs:=[2]) (by kernel_rfl) (by simp) ?_
    refine AllReadyH.cons rfl (fun K hK => ?_) AllReadyH.nil
    go_simp
    go_at_call 123
    refine Calls.mono (kTimes c8 c8 S S H8 H8 _) ?_
    rintro e v10x0 ⟨d10x0,rfl,hv10x0,hb10x0⟩
    have sv0:W9.heap.size≤v10x0.heap.size:=(Trk.later hHeld hb10x0).2
    go_wp2_with fail
    refine hK.out _ _ (Trk.later hHeld hb10x0) (fun hHeld => ?_)
    clear hK K
    skip
    refine wpAnyH_ready (rs:=[6]) (by kernel_rfl) (by simp) ?_
    refine AllReadyH.cons rfl (fun K hK => ?_) AllReadyH.nil
    go_simp
    go_at_call 123
    refine Calls.mono (kTimes c9 c9 D D H9 H9 _) ?_
    rintro e v10x1 ⟨d10x1,rfl,hv10x1,hb10x1⟩
    have sv1:W9.heap.size≤v10x1.heap.size:=(Trk.later hHeld hb10x1).2
    go_wp2_with fail
    refine hK.out _ _ (Trk.later hHeld hb10x1) (fun hHeld => ?_)
    clear hK K
    skip
    refine wpAnyH_ready (rs:=[7]) (by kernel_rfl) (by simp) ?_
    refine AllReadyH.cons rfl (fun K hK => ?_) AllReadyH.nil
    go_simp
    go_at_call 123
    refine Calls.mono (kTimes fu d10x1 u (D*D) hu hv10x1 _) ?_
    rintro e v10x2 ⟨d10x2,rfl,hv10x2,hb10x2⟩
    have sv2:W9.heap.size≤v10x2.heap.size:=(Trk.later hHeld hb10x2).2
    go_wp2_with fail
    refine hK.out _ _ (Trk.later hHeld hb10x2) (fun hHeld => ?_)
    clear hK K
    skip
    refine wpAnyH_take (i:=8) (v := .agg (nl d10x0++nl d10x2).toArray) rfl (by kernel_rfl) (by kernel_rfl) (by kernel_rfl) (fun _ _ _ h=>h) (Or.inl ⟨by rfl,fun w hSw=>by kernel_rfl⟩) (by assumption) ?_
    skip
    refine wpAnyH_ready (rs:=[10]) (by kernel_rfl) (by simp) ?_
    refine AllReadyH.cons rfl (fun K hK => ?_) AllReadyH.nil
    rw[if_pos (by rfl)]
    have th:=(there_later (there_later (there_later ((World.there_drew _ _ _ _).2 (there20 W9 152)) hb10x0) hb10x1) hb10x2)
    refine wp_store_mid _ _ _ rfl _ _ (nl d10x0++nl d10x2).toArray rfl rfl th sizePair (all_oneCell_toArray (fun v hv=>(List.mem_append.1 hv).elim (nl_one _ v) (nl_one _ v))) ?_
    refine hK.out _ _ (Trk.put R9.out hHeld sr _) (fun hHeld => ?_)
    clear hK K
    skip
    refine wpAnyH_done (by kernel_rfl) ?_ _
    go_wp2_with fail
    go_meet
    case rel=>exact⟨_,d10x0,d10x2,rfl,R9.out.2.2.2.2.2,Tr.add hHeld.1 (World.rangeAt_setCells_same _ _ _ _ th) (by rw[List.length_append,nl_len,nl_len];decide),hv10x0,hv10x2⟩
   case rest =>
    obtain⟨b10,c10,c10',rfl,HC10⟩:=hcut
    have R10:Hid (Tr w wc [(b10,0,nl c10++nl c10'),(w9.heap.size,0,nl c9),(w8.heap.size,0,nl c8),(b7,0,nl c7),(b6,0,nl c6),(w5.heap.size,0,nl c5),(w4.heap.size,0,nl c4),(w3.heap.size,0,nl c3),(w2.heap.size,0,nl c2),(w1.heap.size,0,nl c1),(w.heap.size,0,nl fu),(w.heap.size+1,0,nl fx),(w.heap.size+1,10,nl fz),(w.heap.size+1+1,0,nl gx),(w.heap.size+1+1,10,nl gz)]):=HC10.out.2.1
    have B10:Hid ((w.heap.size+1+1+1+1) < b10):=HC10.out.1
    obtain⟨NEXTX,hNEXTX⟩:∃zz,(S*S)=zz:=⟨_,rfl⟩
    obtain⟨NEXTZ,hNEXTZ⟩:∃zz,(u*(D*D))=zz:=⟨_,rfl⟩
    have H10:Hid (dk c10 NEXTX∧dk c10' NEXTZ):=by rw[←hNEXTX,←hNEXTZ];exact HC10.out.2.2
    clear HC10 R9
    obtain⟨W10,hW10⟩:∃W,wc=W:=⟨_,rfl⟩
    rw[hW10] at R10 ⊢
    clear hW10 wc
    go_wp2_with fail
    obtain⟨W11,hW11⟩:∃W,W10.alloc (.cells #[.int .i64 121665,.int .i64 0,.int .i64 0,.int .i64 0,.int .i64 0,.int .i64 0,.int .i64 0,.int .i64 0,.int .i64 0,.int .i64 0] 114)=W:=⟨_,rfl⟩
    have R11:Hid (Tr w W11 [(W10.heap.size,0,nl (lowd 121665)),(b10,0,nl c10++nl c10'),(w9.heap.size,0,nl c9),(w8.heap.size,0,nl c8),(b7,0,nl c7),(b6,0,nl c6),(w5.heap.size,0,nl c5),(w4.heap.size,0,nl c4),(w3.heap.size,0,nl c3),(w2.heap.size,0,nl c2),(w1.heap.size,0,nl c1),(w.heap.size,0,nl fu),(w.heap.size+1,0,nl fx),(w.heap.size+1,10,nl fz),(w.heap.size+1+1,0,nl gx),(w.heap.size+1+1,10,nl gz)]):=by
     rw[←hW11]
     exact R10.out.new (nl (lowd 121665)) _ (by rw[nl_len];decide)
    have HCC:Hid (dk (lowd 121665) c0):=lowd_dig 121665 (by decide)
    rw[hW11]
    clear hW11 R10
    go_wp2_with fail
    go_cut [19] (fun s wx=>∃(b:Nat) (c c':Nat→Int),s = .pointer (some ⟨b,0,none⟩)∧Hid ((w.heap.size+1+1+1+1) < b∧Tr w wx ((b,0,nl c++nl c')::[(W10.heap.size,0,nl (lowd 121665)),(b10,0,nl c10++nl c10'),(w9.heap.size,0,nl c9),(w8.heap.size,0,nl c8),(b7,0,nl c7),(b6,0,nl c6),(w5.heap.size,0,nl c5),(w4.heap.size,0,nl c4),(w3.heap.size,0,nl c3),(w2.heap.size,0,nl c2),(w1.heap.size,0,nl c1),(w.heap.size,0,nl fu),(w.heap.size+1,0,nl fx),(w.heap.size+1,10,nl fz),(w.heap.size+1+1,0,nl gx),(w.heap.size+1+1,10,nl gz)])∧dk c (AA*BB)∧dk c' (EE*(AA+(c0*EE)))))
    case first =>
     have sr:W11.heap.size≤W11.heap.size:=Nat.le_refl _
     refine wp_region_held_drew (S:=fun w'=>Trk w W11 w' [(W10.heap.size,0,nl (lowd 121665)),(b10,0,nl c10++nl c10'),(w9.heap.size,0,nl c9),(w8.heap.size,0,nl c8),(b7,0,nl c7),(b6,0,nl c6),(w5.heap.size,0,nl c5),(w4.heap.size,0,nl c4),(w3.heap.size,0,nl c3),(w2.heap.size,0,nl c2),(w1.heap.size,0,nl c1),(w.heap.size,0,nl fu),(w.heap.size+1,0,nl fx),(w.heap.size+1,10,nl fz),(w.heap.size+1+1,0,nl gx),(w.heap.size+1+1,10,nl gz)]) (by kernel_rfl) ⟨R11.out.later (Below.refl _ _).drew,Nat.le_refl _⟩ (fun hHeld => ?_)
     refine wpAnyH_take (i:=0) (v := .agg (nl c3).toArray) rfl (by kernel_rfl) (by kernel_rfl) (by kernel_rfl) (fun _ _ _ h=>h) (yieldsIf_load_mid (by rfl) _ _ rfl (w3.heap.size) 0 rfl (nl c3) _ (fun w' h=>h.1.1 (w3.heap.size,0,nl c3) (by simp)) Tryz.underlying114 rfl sizeNum) (by assumption) ?_
     skip
     refine wpAnyH_take (i:=1) (v := .agg (nl c4).toArray) rfl (by kernel_rfl) (by kernel_rfl) (by kernel_rfl) (fun _ _ _ h=>h) (yieldsIf_load_mid (by rfl) _ _ rfl (w4.heap.size) 0 rfl (nl c4) _ (fun w' h=>h.1.1 (w4.heap.size,0,nl c4) (by simp)) Tryz.underlying114 rfl sizeNum) (by assumption) ?_
     skip
     refine wpAnyH_take (i:=3) (v := .agg (nl c5).toArray) rfl (by kernel_rfl) (by kernel_rfl) (by kernel_rfl) (fun _ _ _ h=>h) (yieldsIf_load_mid (by rfl) _ _ rfl (w5.heap.size) 0 rfl (nl c5) _ (fun w' h=>h.1.1 (w5.heap.size,0,nl c5) (by simp)) Tryz.underlying114 rfl sizeNum) (by assumption) ?_
     skip
     refine wpAnyH_take (i:=4) (v := .agg (nl c3).toArray) rfl (by kernel_rfl) (by kernel_rfl) (by kernel_rfl) (fun _ _ _ h=>h) (yieldsIf_load_mid (by rfl) _ _ rfl (w3.heap.size) 0 rfl (nl c3) _ (fun w' h=>h.1.1 (w3.heap.size,0,nl c3) (by simp)) Tryz.underlying114 rfl sizeNum) (by assumption) ?_
     skip
     refine wpAnyH_take (i:=5) (v := .agg (nl (lowd 121665)).toArray) rfl (by kernel_rfl) (by kernel_rfl) (by kernel_rfl) (fun _ _ _ h=>h) (yieldsIf_load_mid (by rfl) _ _ rfl (W10.heap.size) 0 rfl (nl (lowd 121665)) _ (fun w' h=>h.1.1 (W10.heap.size,0,nl (lowd 121665)) (by simp)) Tryz.underlying114 rfl sizeNum) (by assumption) ?_
     skip
     refine wpAnyH_take (i:=6) (v := .agg (nl c5).toArray) rfl (by kernel_rfl) (by kernel_rfl) (by kernel_rfl) (fun _ _ _ h=>h) (yieldsIf_load_mid (by rfl) _ _ rfl (w5.heap.size) 0 rfl (nl c5) _ (fun w' h=>h.1.1 (w5.heap.size,0,nl c5) (by simp)) Tryz.underlying114 rfl sizeNum) (by assumption) ?_
     skip
     refine wpAnyH_ready (rs:=[2,11]) (by kernel_rfl) (by simp) ?_
     refine AllReadyH.cons rfl (fun K hK => ?_) ?_
     ·skip
      go_simp
      go_at_call 123
      refine Calls.mono (kTimes c3 c4 AA BB H3 H4 _) ?_
      rintro e v12x0 ⟨d12x0,rfl,hv12x0,hb12x0⟩
      have sv0:W11.heap.size≤v12x0.heap.size:=(Trk.later hHeld hb12x0).2
      go_wp2_with fail
      refine hK.out _ _ (Trk.later hHeld hb12x0) (fun hHeld => ?_)
      clear hK K
      skip
      refine wpAnyH_ready (rs:=[7,11]) (by kernel_rfl) (by simp) ?_
      refine AllReadyH.cons rfl (fun K hK => ?_) ?_
      ·skip
       go_simp
       go_at_call 123
       refine Calls.mono (kTimes (lowd 121665) c5 c0 EE HCC H5 _) ?_
       rintro e v12x1 ⟨d12x1,rfl,hv12x1,hb12x1⟩
       have sv1:W11.heap.size≤v12x1.heap.size:=(Trk.later hHeld hb12x1).2
       go_wp2_with fail
       refine hK.out _ _ (Trk.later hHeld hb12x1) (fun hHeld => ?_)
       clear hK K
       skip
       refine wpAnyH_ready (rs:=[8,11]) (by kernel_rfl) (by simp) ?_
       refine AllReadyH.cons rfl (fun K hK => ?_) ?_
       ·skip
        go_simp
        go_at_call 122
        refine Calls.mono (kPlus c3 d12x1 AA (c0*EE) H3 hv12x1 _) ?_
        rintro e v12x2 ⟨d12x2,rfl,hv12x2,hb12x2⟩
        have sv2:W11.heap.size≤v12x2.heap.size:=(Trk.later hHeld hb12x2).2
        go_wp2_with fail
        refine hK.out _ _ (Trk.later hHeld hb12x2) (fun hHeld => ?_)
        clear hK K
        skip
        refine wpAnyH_ready (rs:=[9,11]) (by kernel_rfl) (by simp) ?_
        refine AllReadyH.cons rfl (fun K hK => ?_) ?_
        ·skip
         go_simp
         go_at_call 123
         refine Calls.mono (kTimes c5 d12x2 EE (AA+(c0*EE)) H5 hv12x2 _) ?_
         rintro e v12x3 ⟨d12x3,rfl,hv12x3,hb12x3⟩
         have sv3:W11.heap.size≤v12x3.heap.size:=(Trk.later hHeld hb12x3).2
         go_wp2_with fail
         refine hK.out _ _ (Trk.later hHeld hb12x3) (fun hHeld => ?_)
         clear hK K
         skip
         refine wpAnyH_take (i:=10) (v := .agg (nl d12x0++nl d12x3).toArray) rfl (by kernel_rfl) (by kernel_rfl) (by kernel_rfl) (fun _ _ _ h=>h) (Or.inl ⟨by rfl,fun w hSw=>by kernel_rfl⟩) (by assumption) ?_
         skip
         refine wpAnyH_ready (rs:=[11]) (by kernel_rfl) (by simp) ?_
         refine AllReadyH.cons rfl (fun K hK => ?_) AllReadyH.nil
         go_simp
         refine hK.out _ _ (Trk.later hHeld ((Below.refl _ _).alloc (Nat.le_refl _) _)) (fun hHeld => ?_)
         clear hK K
         skip
         refine wpAnyH_ready (rs:=[12]) (by kernel_rfl) (by simp) ?_
         refine AllReadyH.cons rfl (fun K hK => ?_) AllReadyH.nil
         rw[if_pos (by rfl)]
         have th:=(there20 v12x3 152)
         refine wp_store_mid _ _ _ rfl _ _ (nl d12x0++nl d12x3).toArray rfl rfl th sizePair (all_oneCell_toArray (fun v hv=>(List.mem_append.1 hv).elim (nl_one _ v) (nl_one _ v))) ?_
         refine hK.out _ _ (Trk.put R11.out hHeld sv3 _) (fun hHeld => ?_)
         clear hK K
         skip
         refine wpAnyH_done (by kernel_rfl) ?_ _
         go_wp2_with fail
         go_meet
         case rel=>exact⟨_,d12x0,d12x3,rfl,Nat.lt_of_lt_of_le R11.out.2.2.2.2.2 sv3,Tr.add hHeld.1 (World.rangeAt_setCells_same _ _ _ _ th) (by rw[List.length_append,nl_len,nl_len];decide),hv12x0,hv12x3⟩
        refine AllReadyH.cons rfl (fun K hK => ?_) AllReadyH.nil
        go_simp
        refine hK.out _ _ (Trk.later hHeld ((Below.refl _ _).alloc (Nat.le_refl _) _)) (fun hHeld => ?_)
        clear hK K
        skip
        refine wpAnyH_ready (rs:=[9]) (by kernel_rfl) (by simp) ?_
        refine AllReadyH.cons rfl (fun K hK => ?_) AllReadyH.nil
        go_simp
        go_at_call 123
        refine Calls.mono (kTimes c5 d12x2 EE (AA+(c0*EE)) H5 hv12x2 _) ?_
        rintro e v12x3 ⟨d12x3,rfl,hv12x3,hb12x3⟩
        have sv3:W11.heap.size≤v12x3.heap.size:=(Trk.later hHeld hb12x3).2
        go_wp2_with fail
        refine hK.out _ _ (Trk.later hHeld hb12x3) (fun hHeld => ?_)
        clear hK K
        skip
        refine wpAnyH_take (i:=10) (v := .agg (nl d12x0++nl d12x3).toArray) rfl (by kernel_rfl) (by kernel_rfl) (by kernel_rfl) (fun _ _ _ h=>h) (Or.inl ⟨by rfl,fun w hSw=>by kernel_rfl⟩) (by assumption) ?_
        skip
        refine wpAnyH_ready (rs:=[12]) (by kernel_rfl) (by simp) ?_
        refine AllReadyH.cons rfl (fun K hK => ?_) AllReadyH.nil
        rw[if_pos (by rfl)]
        have th:=(there_later (there20 v12x2 152) hb12x3)
        refine wp_store_mid _ _ _ rfl _ _ (nl d12x0++nl d12x3).toArray rfl rfl th sizePair (all_oneCell_toArray (fun v hv=>(List.mem_append.1 hv).elim (nl_one _ v) (nl_one _ v))) ?_
        refine hK.out _ _ (Trk.put R11.out hHeld sv2 _) (fun hHeld => ?_)
        clear hK K
        skip
        refine wpAnyH_done (by kernel_rfl) ?_ _
        go_wp2_with fail
        go_meet
        case rel=>exact⟨_,d12x0,d12x3,rfl,Nat.lt_of_lt_of_le R11.out.2.2.2.2.2 sv2,Tr.add hHeld.1 (World.rangeAt_setCells_same _ _ _ _ th) (by rw[List.length_append,nl_len,nl_len];decide),hv12x0,hv12x3⟩
       refine AllReadyH.cons rfl (fun K hK => ?_) AllReadyH.nil
       go_simp
       refine hK.out _ _ (Trk.later hHeld ((Below.refl _ _).alloc (Nat.le_refl _) _)) (fun hHeld => ?_)
       clear hK K
       skip
       refine wpAnyH_ready (rs:=[8]) (by kernel_rfl) (by simp) ?_
       refine AllReadyH.cons rfl (fun K hK => ?_) AllReadyH.nil
       go_simp
       go_at_call 122
       refine Calls.mono (kPlus c3 d12x1 AA (c0*EE) H3 hv12x1 _) ?_
       rintro e v12x2 ⟨d12x2,rfl,hv12x2,hb12x2⟩
       have sv2:W11.heap.size≤v12x2.heap.size:=(Trk.later hHeld hb12x2).2
       go_wp2_with fail
       refine hK.out _ _ (Trk.later hHeld hb12x2) (fun hHeld => ?_)
       clear hK K
       skip
       refine wpAnyH_ready (rs:=[9]) (by kernel_rfl) (by simp) ?_
       refine AllReadyH.cons rfl (fun K hK => ?_) AllReadyH.nil
       go_simp
       go_at_call 123
       refine Calls.mono (kTimes c5 d12x2 EE (AA+(c0*EE)) H5 hv12x2 _) ?_
       rintro e v12x3 ⟨d12x3,rfl,hv12x3,hb12x3⟩
       have sv3:W11.heap.size≤v12x3.heap.size:=(Trk.later hHeld hb12x3).2
       go_wp2_with fail
       refine hK.out _ _ (Trk.later hHeld hb12x3) (fun hHeld => ?_)
       clear hK K
       skip
       refine wpAnyH_take (i:=10) (v := .agg (nl d12x0++nl d12x3).toArray) rfl (by kernel_rfl) (by kernel_rfl) (by kernel_rfl) (fun _ _ _ h=>h) (Or.inl ⟨by rfl,fun w hSw=>by kernel_rfl⟩) (by assumption) ?_
       skip
       refine wpAnyH_ready (rs:=[12]) (by kernel_rfl) (by simp) ?_
       refine AllReadyH.cons rfl (fun K hK => ?_) AllReadyH.nil
       rw[if_pos (by rfl)]
       have th:=(there_later (there_later (there20 v12x1 152) hb12x2) hb12x3)
       refine wp_store_mid _ _ _ rfl _ _ (nl d12x0++nl d12x3).toArray rfl rfl th sizePair (all_oneCell_toArray (fun v hv=>(List.mem_append.1 hv).elim (nl_one _ v) (nl_one _ v))) ?_
       refine hK.out _ _ (Trk.put R11.out hHeld sv1 _) (fun hHeld => ?_)
       clear hK K
       skip
       refine wpAnyH_done (by kernel_rfl) ?_ _
       go_wp2_with fail
       go_meet
       case rel=>exact⟨_,d12x0,d12x3,rfl,Nat.lt_of_lt_of_le R11.out.2.2.2.2.2 sv1,Tr.add hHeld.1 (World.rangeAt_setCells_same _ _ _ _ th) (by rw[List.length_append,nl_len,nl_len];decide),hv12x0,hv12x3⟩
      refine AllReadyH.cons rfl (fun K hK => ?_) AllReadyH.nil
      go_simp
      refine hK.out _ _ (Trk.later hHeld ((Below.refl _ _).alloc (Nat.le_refl _) _)) (fun hHeld => ?_)
      clear hK K
      skip
      refine wpAnyH_ready (rs:=[7]) (by kernel_rfl) (by simp) ?_
      refine AllReadyH.cons rfl (fun K hK => ?_) AllReadyH.nil
      go_simp
      go_at_call 123
      refine Calls.mono (kTimes (lowd 121665) c5 c0 EE HCC H5 _) ?_
      rintro e v12x1 ⟨d12x1,rfl,hv12x1,hb12x1⟩
      have sv1:W11.heap.size≤v12x1.heap.size:=(Trk.later hHeld hb12x1).2
      go_wp2_with fail
      refine hK.out _ _ (Trk.later hHeld hb12x1) (fun hHeld => ?_)
      clear hK K
      skip
      refine wpAnyH_ready (rs:=[8]) (by kernel_rfl) (by simp) ?_
      refine AllReadyH.cons rfl (fun K hK => ?_) AllReadyH.nil
      go_simp
      go_at_call 122
      refine Calls.mono (kPlus c3 d12x1 AA (c0*EE) H3 hv12x1 _) ?_
      rintro e v12x2 ⟨d12x2,rfl,hv12x2,hb12x2⟩
      have sv2:W11.heap.size≤v12x2.heap.size:=(Trk.later hHeld hb12x2).2
      go_wp2_with fail
      refine hK.out _ _ (Trk.later hHeld hb12x2) (fun hHeld => ?_)
      clear hK K
      skip
      refine wpAnyH_ready (rs:=[9]) (by kernel_rfl) (by simp) ?_
      refine AllReadyH.cons rfl (fun K hK => ?_) AllReadyH.nil
      go_simp
      go_at_call 123
      refine Calls.mono (kTimes c5 d12x2 EE (AA+(c0*EE)) H5 hv12x2 _) ?_
      rintro e v12x3 ⟨d12x3,rfl,hv12x3,hb12x3⟩
      have sv3:W11.heap.size≤v12x3.heap.size:=(Trk.later hHeld hb12x3).2
      go_wp2_with fail
      refine hK.out _ _ (Trk.later hHeld hb12x3) (fun hHeld => ?_)
      clear hK K
      skip
      refine wpAnyH_take (i:=10) (v := .agg (nl d12x0++nl d12x3).toArray) rfl (by kernel_rfl) (by kernel_rfl) (by kernel_rfl) (fun _ _ _ h=>h) (Or.inl ⟨by rfl,fun w hSw=>by kernel_rfl⟩) (by assumption) ?_
      skip
      refine wpAnyH_ready (rs:=[12]) (by kernel_rfl) (by simp) ?_
      refine AllReadyH.cons rfl (fun K hK => ?_) AllReadyH.nil
      rw[if_pos (by rfl)]
      have th:=(there_later (there_later (there_later (there20 v12x0 152) hb12x1) hb12x2) hb12x3)
      refine wp_store_mid _ _ _ rfl _ _ (nl d12x0++nl d12x3).toArray rfl rfl th sizePair (all_oneCell_toArray (fun v hv=>(List.mem_append.1 hv).elim (nl_one _ v) (nl_one _ v))) ?_
      refine hK.out _ _ (Trk.put R11.out hHeld sv0 _) (fun hHeld => ?_)
      clear hK K
      skip
      refine wpAnyH_done (by kernel_rfl) ?_ _
      go_wp2_with fail
      go_meet
      case rel=>exact⟨_,d12x0,d12x3,rfl,Nat.lt_of_lt_of_le R11.out.2.2.2.2.2 sv0,Tr.add hHeld.1 (World.rangeAt_setCells_same _ _ _ _ th) (by rw[List.length_append,nl_len,nl_len];decide),hv12x0,hv12x3⟩
     refine AllReadyH.cons rfl (fun K hK => ?_) AllReadyH.nil
     go_simp
     refine hK.out _ _ (Trk.later hHeld ((Below.refl _ _).alloc (Nat.le_refl _) _)) (fun hHeld => ?_)
     clear hK K
     skip
     refine wpAnyH_ready (rs:=[2]) (by kernel_rfl) (by simp) ?_
     refine AllReadyH.cons rfl (fun K hK => ?_) AllReadyH.nil
     go_simp
     go_at_call 123
     refine Calls.mono (kTimes c3 c4 AA BB H3 H4 _) ?_
     rintro e v12x0 ⟨d12x0,rfl,hv12x0,hb12x0⟩
     have sv0:W11.heap.size≤v12x0.heap.size:=(Trk.later hHeld hb12x0).2
     go_wp2_with fail
     refine hK.out _ _ (Trk.later hHeld hb12x0) (fun hHeld => ?_)
     clear hK K
     skip
     refine wpAnyH_ready (rs:=[7]) (by kernel_rfl) (by simp) ?_
     refine AllReadyH.cons rfl (fun K hK => ?_) AllReadyH.nil
     go_simp
     go_at_call 123
     refine Calls.mono (kTimes (lowd 121665) c5 c0 EE HCC H5 _) ?_
     rintro e v12x1 ⟨d12x1,rfl,hv12x1,hb12x1⟩
     have sv1:W11.heap.size≤v12x1.heap.size:=(Trk.later hHeld hb12x1).2
     go_wp2_with fail
     refine hK.out _ _ (Trk.later hHeld hb12x1) (fun hHeld => ?_)
     clear hK K
     skip
     refine wpAnyH_ready (rs:=[8]) (by kernel_rfl) (by simp) ?_
     refine AllReadyH.cons rfl (fun K hK => ?_) AllReadyH.nil
     go_simp
     go_at_call 122
     refine Calls.mono (kPlus c3 d12x1 AA (c0*EE) H3 hv12x1 _) ?_
     rintro e v12x2 ⟨d12x2,rfl,hv12x2,hb12x2⟩
     have sv2:W11.heap.size≤v12x2.heap.size:=(Trk.later hHeld hb12x2).2
     go_wp2_with fail
     refine hK.out _ _ (Trk.later hHeld hb12x2) (fun hHeld => ?_)
     clear hK K
     skip
     refine wpAnyH_ready (rs:=[9]) (by kernel_rfl) (by simp) ?_
     refine AllReadyH.cons rfl (fun K hK => ?_) AllReadyH.nil
     go_simp
     go_at_call 123
     refine Calls.mono (kTimes c5 d12x2 EE (AA+(c0*EE)) H5 hv12x2 _) ?_
     rintro e v12x3 ⟨d12x3,rfl,hv12x3,hb12x3⟩
     have sv3:W11.heap.size≤v12x3.heap.size:=(Trk.later hHeld hb12x3).2
     go_wp2_with fail
     refine hK.out _ _ (Trk.later hHeld hb12x3) (fun hHeld => ?_)
     clear hK K
     skip
     refine wpAnyH_take (i:=10) (v := .agg (nl d12x0++nl d12x3).toArray) rfl (by kernel_rfl) (by kernel_rfl) (by kernel_rfl) (fun _ _ _ h=>h) (Or.inl ⟨by rfl,fun w hSw=>by kernel_rfl⟩) (by assumption) ?_
     skip
     refine wpAnyH_ready (rs:=[12]) (by kernel_rfl) (by simp) ?_
     refine AllReadyH.cons rfl (fun K hK => ?_) AllReadyH.nil
     rw[if_pos (by rfl)]
     have th:=(there_later (there_later (there_later (there_later ((World.there_drew _ _ _ _).2 (there20 W11 152)) hb12x0) hb12x1) hb12x2) hb12x3)
     refine wp_store_mid _ _ _ rfl _ _ (nl d12x0++nl d12x3).toArray rfl rfl th sizePair (all_oneCell_toArray (fun v hv=>(List.mem_append.1 hv).elim (nl_one _ v) (nl_one _ v))) ?_
     refine hK.out _ _ (Trk.put R11.out hHeld sr _) (fun hHeld => ?_)
     clear hK K
     skip
     refine wpAnyH_done (by kernel_rfl) ?_ _
     go_wp2_with fail
     go_meet
     case rel=>exact⟨_,d12x0,d12x3,rfl,R11.out.2.2.2.2.2,Tr.add hHeld.1 (World.rangeAt_setCells_same _ _ _ _ th) (by rw[List.length_append,nl_len,nl_len];decide),hv12x0,hv12x3⟩
    case rest =>
     obtain⟨b12,c12,c12',rfl,HC12⟩:=hcut
     have R12:Hid (Tr w wc [(b12,0,nl c12++nl c12'),(W10.heap.size,0,nl (lowd 121665)),(b10,0,nl c10++nl c10'),(w9.heap.size,0,nl c9),(w8.heap.size,0,nl c8),(b7,0,nl c7),(b6,0,nl c6),(w5.heap.size,0,nl c5),(w4.heap.size,0,nl c4),(w3.heap.size,0,nl c3),(w2.heap.size,0,nl c2),(w1.heap.size,0,nl c1),(w.heap.size,0,nl fu),(w.heap.size+1,0,nl fx),(w.heap.size+1,10,nl fz),(w.heap.size+1+1,0,nl gx),(w.heap.size+1+1,10,nl gz)]):=HC12.out.2.1
     have B12:Hid ((w.heap.size+1+1+1+1) < b12):=HC12.out.1
     obtain⟨TWICEX,hTWICEX⟩:∃zz,(AA*BB)=zz:=⟨_,rfl⟩
     obtain⟨TWICEZ,hTWICEZ⟩:∃zz,(EE*(AA+(c0*EE)))=zz:=⟨_,rfl⟩
     have H12:Hid (dk c12 TWICEX∧dk c12' TWICEZ):=by rw[←hTWICEX,←hTWICEZ];exact HC12.out.2.2
     clear HC12 R11
     obtain⟨W12,hW12⟩:∃W,wc=W:=⟨_,rfl⟩
     rw[hW12] at R12 ⊢
     clear hW12 wc
     go_wp2_with fail
     have T0:=R12.out.later (Below.refl _ _).drew
     have nT:=B12.out
     have nN:=B10.out
     refine wp_region_held_drew (S:=fun w'=>w'.rangeAt b12 0 (nl c12++nl c12')∧w'.rangeAt b10 0 (nl c10++nl c10')∧w'.there (w.heap.size+1+1+1) 0 20∧w'.there (w.heap.size+1+1+1+1) 0 20∧Below w.heap.size w w') (by kernel_rfl) ⟨T0.1 (b12,0,(nl c12++nl c12')) (by simp),T0.1 (b10,0,(nl c10++nl c10')) (by simp),T0.2.2.1,T0.2.2.2.1,T0.2.1⟩ (fun hHeld => ?_)
     refine wpAnyH_take (i:=0) (v := .agg (nl c12++nl c12').toArray) rfl (by kernel_rfl) (by kernel_rfl) (by kernel_rfl) (fun _ _ _ h=>h) (yieldsIf_load_mid (by rfl) _ _ rfl b12 0 rfl (nl c12++nl c12') _ (fun w' h=>h.1) Tryz.underlying152 rfl sizePair) (by assumption) ?_
     refine wpAnyH_take (i:=1) (v := .agg (nl c10++nl c10').toArray) rfl (by kernel_rfl) (by kernel_rfl) (by kernel_rfl) (fun _ _ _ h=>h) (yieldsIf_load_mid (by rfl) _ _ rfl b10 0 rfl (nl c10++nl c10') _ (fun w' h=>h.2.1) Tryz.underlying152 rfl sizePair) (by assumption) ?_
     have thS:W12.drew.there (w.heap.size+1+1+1) 0 (nl c12++nl c12').toArray.size:=by rw[show (nl c12++nl c12').toArray.size=20 from rfl];exact hHeld.2.2.1
     have thL:W12.drew.there (w.heap.size+1+1+1) 0 (nl c12++nl c12').length:=by rw[show (nl c12++nl c12').length=20 from rfl];exact hHeld.2.2.1
     refine wpAnyH_ready (rs:=[2]) (by kernel_rfl) (by simp) ?_
     refine AllReadyH.cons rfl (fun K hK => ?_) AllReadyH.nil
     rw[if_pos (by kernel_rfl)]
     refine wp_store_mid 152 (.tmp 6) (.tmp 80) (by kernel_rfl) (w.heap.size+1+1+1) 0 (nl c12++nl c12').toArray (by kernel_rfl) (by kernel_rfl) thS sizePair (all_oneCell_toArray (fun v hv=>(List.mem_append.1 hv).elim (nl_one _ v) (nl_one _ v))) ?_
     have q1:=World.rangeAt_setCells_apart hHeld.1 (w.heap.size+1+1+1) 0 (nl c12++nl c12') (.inl (by omega))
     have q2:=World.rangeAt_setCells_apart hHeld.2.1 (w.heap.size+1+1+1) 0 (nl c12++nl c12') (.inl (by omega))
     have q3:=World.there_setCells hHeld.2.2.1 (w.heap.size+1+1+1) 0 (nl c12++nl c12')
     have q4:=World.there_setCells hHeld.2.2.2.1 (w.heap.size+1+1+1) 0 (nl c12++nl c12')
     have q5:=below_setCells (b:=w.heap.size+1+1+1) (by omega) (nl c12++nl c12') 0 _ hHeld.2.2.2.2
     have zr0:(W12.drew.setCells (w.heap.size+1+1+1) 0 (nl c12++nl c12').toArray.toList).rangeAt (w.heap.size+1+1+1) 0 (nl c12++nl c12'):=World.rangeAt_setCells_same W12.drew (w.heap.size+1+1+1) 0 (nl c12++nl c12') thL
     refine hK.out _ _ ⟨q1,q2,q3,q4,q5⟩ (fun hHeld => ?_)
     clear q1 q2 q3 q4 q5 thS thL
     clear hK K
     obtain⟨V1,hV1⟩:∃V,W12.drew.setCells (w.heap.size+1+1+1) 0 (nl c12++nl c12').toArray.toList=V:=⟨_,rfl⟩
     rw[hV1] at hHeld zr0 ⊢
     clear hV1
     have thS:V1.there (w.heap.size+1+1+1+1) 0 (nl c10++nl c10').toArray.size:=by rw[show (nl c10++nl c10').toArray.size=20 from rfl];exact hHeld.2.2.2.1
     have thL:V1.there (w.heap.size+1+1+1+1) 0 (nl c10++nl c10').length:=by rw[show (nl c10++nl c10').length=20 from rfl];exact hHeld.2.2.2.1
     refine wpAnyH_ready (rs:=[3]) (by kernel_rfl) (by simp) ?_
     refine AllReadyH.cons rfl (fun K hK => ?_) AllReadyH.nil
     rw[if_pos (by kernel_rfl)]
     refine wp_store_mid 152 (.tmp 7) (.tmp 81) (by kernel_rfl) (w.heap.size+1+1+1+1) 0 (nl c10++nl c10').toArray (by kernel_rfl) (by kernel_rfl) thS sizePair (all_oneCell_toArray (fun v hv=>(List.mem_append.1 hv).elim (nl_one _ v) (nl_one _ v))) ?_
     have q1:=World.rangeAt_setCells_apart hHeld.1 (w.heap.size+1+1+1+1) 0 (nl c10++nl c10') (.inl (by omega))
     have q2:=World.rangeAt_setCells_apart hHeld.2.1 (w.heap.size+1+1+1+1) 0 (nl c10++nl c10') (.inl (by omega))
     have q3:=World.there_setCells hHeld.2.2.1 (w.heap.size+1+1+1+1) 0 (nl c10++nl c10')
     have q4:=World.there_setCells hHeld.2.2.2.1 (w.heap.size+1+1+1+1) 0 (nl c10++nl c10')
     have q5:=below_setCells (b:=w.heap.size+1+1+1+1) (by omega) (nl c10++nl c10') 0 _ hHeld.2.2.2.2
     have zr1:(V1.setCells (w.heap.size+1+1+1+1) 0 (nl c10++nl c10').toArray.toList).rangeAt (w.heap.size+1+1+1+1) 0 (nl c10++nl c10'):=World.rangeAt_setCells_same V1 (w.heap.size+1+1+1+1) 0 (nl c10++nl c10') thL
     refine hK.out _ _ ⟨q1,q2,q3,q4,q5⟩ (fun hHeld => ?_)
     clear q1 q2 q3 q4 q5 thS thL
     clear hK K
     obtain⟨V2,hV2⟩:∃V,V1.setCells (w.heap.size+1+1+1+1) 0 (nl c10++nl c10').toArray.toList=V:=⟨_,rfl⟩
     rw[hV2] at hHeld zr1 ⊢
     have zr2:V2.rangeAt (w.heap.size+1+1+1) 0 (nl c12++nl c12'):=hV2 ▸ World.rangeAt_setCells_apart zr0 (w.heap.size+1+1+1+1) 0 (nl c10++nl c10').toArray.toList (.inl (by omega))
     clear hV2
     refine wpAnyH_done (by kernel_rfl) ?_ _
     have BF:Hid (Below w.heap.size w V2):=hHeld.2.2.2.2
     clear hHeld zr0
     go_wp2
     have FIN:stepL u (x2,z2) (x3,z3)=((TWICEX,TWICEZ),(NEXTX,NEXTZ)):=by
      rw[←hTWICEX,←hTWICEZ,←hNEXTX,←hNEXTZ,←hS,←hD,←hDA,←hCB,←hEE,←hAA,←hBB,←hA,←hB]
      rfl
     refine bodyPost_ret (v := .tuple #[.agg (nl c12++nl c12').toArray,.agg (nl c10++nl c10').toArray]) ?_ rfl ⟨c12,c12',c10,c10',rfl,?_,BF.out⟩
     ·exact res_pair _ V2 (w.heap.size+1+1+1) (w.heap.size+1+1+1+1) _ _ (by kernel_rfl) (by kernel_rfl) (run_loadVar_mid V2 (w.heap.size+1+1+1) 0 152 (nl c12++nl c12') _ zr2 Tryz.underlying152 rfl sizePair) (run_loadVar_mid V2 (w.heap.size+1+1+1+1) 0 152 (nl c10++nl c10') _ zr1 Tryz.underlying152 rfl sizePair)
     ·rw[FIN];exact⟨H12.out.1,H12.out.2,H10.out.1,H10.out.2⟩
end Go.Proofs.YtgnkkjknngblbaaGreatDoor.Crv
