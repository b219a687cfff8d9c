/- What the small functions of package curve do,at elements. -/
import Derived.Test.YtgnkkjknngblbaaGreatDoorZmG04
import Derived.Test.YtgnkkjknngblbaaGreatDoorZmG05
namespace Go.Proofs.YtgnkkjknngblbaaGreatDoor.Crv
open Go.RowKit Go.Proofs.Fd Go.Proofs.Ed
set_option maxRecDepth 20000
def ek (a:K):ByteArray:=enc a.val
theorem ek_size (a:K):(ek a).size=32:=enc_size _
theorem k_lt (a:K):a.val < p:=a.isLt
theorem ek_sub (a b:K):enc ((a.val+p - b.val) % p)=ek (a - b):=by
 have h1:=a.isLt;have h2:=b.isLt
 have:(a - b).val=(a.val+p - b.val) % p:=by
  show ((q - b.val)+a.val) % q=_
  congr 1
  show q - b.val+a.val=a.val+q - b.val
  omega
 unfold ek;rw[this]
theorem cadd_any (a b:K) (w:World) :
  Calls Tryz.prog 147 #[.string (ek a),.string (ek b)] w fun e w'=>e = .returned (.string (ek (a+b)))∧Below w.heap.size w w':=by
 have AD:Hid (∀(B:Nat) (w:World),w.cell? ⟨B,0,none⟩=some (.string (ek a))→w.cell? ⟨B,1,none⟩=some (.string (ek b))→Calls Tryz.prog 168 #[.slice (some ⟨B,0,none⟩) 2 2] w fun e w'=>e = .returned (.tuple #[.string (ek (a+b)),.int .i64 0])∧Below w.heap.size w w'):=fun B w h0 h1 =>
  Add2_el a.val b.val B (k_lt a) (k_lt b) w h0 h1
 go_enter Tryz.func147, Tryz.ntmps147
 go_wp2_with fail
 refine Calls.mono (AD.out w.heap.size _ (by simp[go_sem]) (by simp[go_sem])) ?_
 rintro e w1 ⟨rfl,hb⟩
 have B1:Hid (Below w.heap.size w w1):=chain ((Below.refl _ _).alloc (Nat.le_refl _) _) hb
 clear hb
 go_wp2
 go_ret
 exact⟨rfl,B1.out⟩
theorem csub_any (a b:K) (w:World) :
  Calls Tryz.prog 146 #[.string (ek a),.string (ek b)] w fun e w'=>e = .returned (.string (ek (a - b)))∧Below w.heap.size w w':=by
 have AD:Hid (∀(w:World),Calls Tryz.prog 167 #[.string (ek a),.string (ek b)] w fun e w'=>e = .returned (.tuple #[.string (ek (a - b)),.int .i64 0])∧Below w.heap.size w w'):=fun w=>by
  have:=Sub_el a.val b.val (k_lt a) (k_lt b) w;rw[ek_sub] at this;exact this
 go_enter Tryz.func146, Tryz.ntmps146
 go_wp2_with fail
 refine Calls.mono (AD.out _) ?_
 rintro e w1 ⟨rfl,hb⟩
 have B1:Hid (Below w.heap.size w w1):=hb
 clear hb
 go_wp2
 go_ret
 exact⟨rfl,B1.out⟩
theorem cinv_any (a:K) (w:World) :
  Calls Tryz.prog 148 #[.string (ek a)] w fun e w'=>e = .returned (.string (ek (kinv a)))∧Below w.heap.size w w':=by
 have AD:Hid (∀(w:World),Calls Tryz.prog 169 #[.string (ek a)] w fun e w'=>e = .returned (.tuple #[.string (ek (kinv a)),.int .i64 0])∧Below w.heap.size w w'):=fun w =>
  Inv_el a.val (k_lt a) w
 go_enter Tryz.func148, Tryz.ntmps148
 go_wp2_with fail
 refine Calls.mono (AD.out _) ?_
 rintro e w1 ⟨rfl,hb⟩
 have B1:Hid (Below w.heap.size w w1):=hb
 clear hb
 go_wp2
 go_ret
 exact⟨rfl,B1.out⟩
theorem cmul2_any (a b:K) (B:Nat) (w:World) (h0:w.cell? ⟨B,0,none⟩=some (.string (ek a))) (h1:w.cell? ⟨B,1,none⟩=some (.string (ek b))) :
  Calls Tryz.prog 145 #[.slice (some ⟨B,0,none⟩) 2 2] w fun e w'=>e = .returned (.string (ek (a*b)))∧Below w.heap.size w w':=by
 have AD:Hid (Calls Tryz.prog 166 #[.slice (some ⟨B,0,none⟩) 2 2] w fun e w'=>e = .returned (.tuple #[.string (ek (a*b)),.int .i64 0])∧Below w.heap.size w w') :=
  Mul2_el a.val b.val B (k_lt a) (k_lt b) w h0 h1
 clear h0 h1
 go_enter Tryz.func145, Tryz.ntmps145
 go_wp2_with fail
 refine Calls.mono AD.out ?_
 rintro e w1 ⟨rfl,hb⟩
 have B1:Hid (Below w.heap.size w w1):=hb
 clear hb
 go_wp2
 go_ret
 exact⟨rfl,B1.out⟩
theorem cmul3_any (a b c:K) (B:Nat) (w:World) (h0:w.cell? ⟨B,0,none⟩=some (.string (ek a))) (h1:w.cell? ⟨B,1,none⟩=some (.string (ek b))) (h2:w.cell? ⟨B,2,none⟩=some (.string (ek c))) :
  Calls Tryz.prog 145 #[.slice (some ⟨B,0,none⟩) 3 3] w fun e w'=>e = .returned (.string (ek (a*b*c)))∧Below w.heap.size w w':=by
 have AD:Hid (Calls Tryz.prog 166 #[.slice (some ⟨B,0,none⟩) 3 3] w fun e w'=>e = .returned (.tuple #[.string (ek (a*b*c)),.int .i64 0])∧Below w.heap.size w w') :=
  Mul3_el a.val b.val c.val B (k_lt a) (k_lt b) (k_lt c) w h0 h1 h2
 clear h0 h1 h2
 go_enter Tryz.func145, Tryz.ntmps145
 go_wp2_with fail
 refine Calls.mono AD.out ?_
 rintro e w1 ⟨rfl,hb⟩
 have B1:Hid (Below w.heap.size w w1):=hb
 clear hb
 go_wp2
 go_ret
 exact⟨rfl,B1.out⟩
theorem csmall_any (n:Nat) (x:Int) (hx:x=(n:Int)) (hn:n≤2147483647) (w:World) :
  Calls Tryz.prog 64 #[.int .i64 x] w fun e w'=>e = .returned (.string (enc n))∧Below w.heap.size w w':=by
 subst hx
 have AD:Hid (∀(w:World),Calls Tryz.prog 100 #[.int .i64 n] w fun e w'=>e = .returned (.tuple #[.string (enc n),.int .i64 0])∧Below w.heap.size w w'):=fun w =>
  Small_ok n hn w
 go_enter Tryz.func64, Tryz.ntmps64
 go_wp2_with fail
 refine Calls.mono (AD.out _) ?_
 rintro e w1 ⟨rfl,hb⟩
 have B1:Hid (Below w.heap.size w w1):=hb
 clear hb
 go_wp2
 go_ret
 exact⟨rfl,B1.out⟩
theorem csum_any (x z:K) (w:World) :
  Calls Tryz.prog 143 #[.agg #[.string (ek x),.string (ek z)]] w fun e w'=>e = .returned (.string (ek (x+z)))∧Below w.heap.size w w':=by
 go_enter Tryz.func143, Tryz.ntmps143
 go_wp2_with fail
 refine Calls.mono (cadd_any x z _) ?_
 rintro e w1 ⟨rfl,hb⟩
 have B1:Hid (Below w.heap.size w w1):=chain ((Below.refl _ _).alloc (Nat.le_refl _) _) hb
 clear hb
 go_wp2
 go_ret
 exact⟨rfl,B1.out⟩
theorem cdiff_any (x z:K) (w:World) :
  Calls Tryz.prog 144 #[.agg #[.string (ek x),.string (ek z)]] w fun e w'=>e = .returned (.string (ek (x - z)))∧Below w.heap.size w w':=by
 go_enter Tryz.func144, Tryz.ntmps144
 go_wp2_with fail
 refine Calls.mono (csub_any x z _) ?_
 rintro e w1 ⟨rfl,hb⟩
 have B1:Hid (Below w.heap.size w w1):=chain ((Below.refl _ _).alloc (Nat.le_refl _) _) hb
 clear hb
 go_wp2
 go_ret
 exact⟨rfl,B1.out⟩
theorem keep2 {W wc w1:World} {a b:Addr} {x z:Value} (hb:Below wc.heap.size wc w1) (h:wc.cell? a=some x∧wc.cell? b=some z∧Below W.heap.size W wc) :
  w1.cell? a=some x∧w1.cell? b=some z∧Below W.heap.size W w1:=⟨cell_later hb h.1,cell_later hb h.2.1,chain h.2.2 hb⟩
theorem cquot_any (x z:K) (w:World) :
  Calls Tryz.prog 117 #[.agg #[.string (ek x),.string (ek z)]] w fun e w'=>e = .returned (.string (ek (x*kinv z)))∧Below w.heap.size w w':=by
 have II:Hid (∀w,Calls Tryz.prog 148 #[.string (ek z)] w fun e w'=>e = .returned (.string (ek (kinv z)))∧Below w.heap.size w w'):=cinv_any z
 generalize kinv z=t at *
 go_enter Tryz.func117, Tryz.ntmps117
 go_wp2
 obtain⟨W,hW⟩:∃W,w.alloc (.cells #[.string (ek x),.string (ek z)] 140)=W:=⟨_,rfl⟩
 have B0:Hid (Below w.heap.size w W):=hW ▸ (Below.refl _ _).alloc (Nat.le_refl _) _
 have c0:W.cell? ⟨w.heap.size,0,none⟩=some (.string (ek x)):=by rw[←hW];simp[go_sem]
 have c1:W.cell? ⟨w.heap.size,1,none⟩=some (.string (ek z)):=by rw[←hW];simp[go_sem]
 rw[hW]
 clear hW
 go_region_held3 (fun w'=>w'.cell? ⟨w.heap.size,0,none⟩=some (.string (ek x))∧w'.cell? ⟨w.heap.size,1,none⟩=some (.string (ek z))∧Below W.heap.size W w') (first|exact⟨c0,c1,(Below.refl _ _).drew⟩|exact keep2 (by assumption) (by assumption)|exact keep2 ((Below.refl _ _).alloc (Nat.le_refl _) _) (by assumption)) (first|(go_at_call 148;refine Calls.mono (II.out _) ?_;rintro e w1 ⟨rfl,hb⟩)|(go_at_call 145;refine Calls.mono (cmul2_any x t _ _ ?_ ?_) ?_;(focus simp[go_sem]);(focus simp[go_sem]);rintro e w2 ⟨rfl,hb2⟩))
 rename_i hBW
 have B1:Hid (Below w.heap.size w w2):=chain B0.out hBW.2.2
 clear hBW
 go_wp2
 go_ret
 exact⟨rfl,B1.out⟩
end Go.Proofs.YtgnkkjknngblbaaGreatDoor.Crv
