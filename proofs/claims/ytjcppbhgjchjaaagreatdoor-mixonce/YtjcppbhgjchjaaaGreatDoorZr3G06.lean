/- A part of the walk. -/
import Derived.Test.YtjcppbhgjchjaaaGreatDoorZr3G04
import Derived.Test.YtjcppbhgjchjaaaGreatDoorZr3G05
set_option maxHeartbeats 8000000
set_option maxRecDepth 20000
namespace Go.Proofs.YtjcppbhgjchjaaaGreatDoor.Crv
open Go.RowKit Go.Proofs.Fd Go.Proofs.Ed
def ek (a:K):Ba:=enc a.val
theorem ek_size (a:K):(ek a).size=32:=zby _
theorem zju (a:K):a.val < p:=a.isLt
theorem zoH (a b:K):enc ((a.val+p - b.val) % p)=ek (a - b):=by
 have h1:=a.isLt;have h2:=b.isLt;have:(a - b).val=(a.val+p - b.val) % p:=by
  show ((q - b.val)+a.val) % q=_;congr 1;show q - b.val+a.val=a.val+q - b.val
  omega
 unfold ek;rw[this]
theorem zc5 (a b:K) (w:Wo) :
  Cl 268 #[.string (ek a),.string (ek b)] w fun e w'=>e = .returned (.string (ek (a+b)))/\Bw w w':=by
 have AD:Hid (∀(B:Nat) (w:Wo),w.cell? ⟨B,0,none⟩=some (.string (ek a))->w.cell? ⟨B,1,none⟩=some (.string (ek b))->Cl 322 #[.slice (some ⟨B,0,none⟩) 2 2] w fun e w'=>e = .returned (.tuple #[.string (ek (a+b)),.int .i64 0])/\Bw w w'):=fun B w h0 h1 =>
  zms a.val b.val B (zju a) (zju b) w h0 h1
 go_enter Tryz.func268, Tryz.ntmps268;go_wp2_with fail;refine cM (AD.out w.heap.size _ (by simp[go_sem]) (by simp[go_sem])) ?_;rintro e w1 ⟨rfl,hb⟩;have B1:Hid (Bw w w1):=chain ((bQ _ _).alloc (nL _) _) hb;clear hb;go_wp2;go_ret;exact⟨rfl,B1.out⟩
theorem zc6 (a b:K) (w:Wo) :
  Cl 267 #[.string (ek a),.string (ek b)] w fun e w'=>e = .returned (.string (ek (a - b)))/\Bw w w':=by
 have AD:Hid (∀(w:Wo),Cl 321 #[.string (ek a),.string (ek b)] w fun e w'=>e = .returned (.tuple #[.string (ek (a - b)),.int .i64 0])/\Bw w w'):=fun w=>by
  have:=zoE a.val b.val (zju a) (zju b) w;rw[zoH] at this;exact this
 go_enter Tryz.func267, Tryz.ntmps267;go_wp2_with fail;refine cM (AD.out _) ?_;rintro e w1 ⟨rfl,hb⟩;have B1:Hid (Bw w w1):=hb;clear hb;go_wp2;go_ret;exact⟨rfl,B1.out⟩
theorem zjQ (a:K) (w:Wo) :
  Cl 269 #[.string (ek a)] w fun e w'=>e = .returned (.string (ek (zhu a)))/\Bw w w':=by
 have AD:Hid (∀(w:Wo),Cl 323 #[.string (ek a)] w fun e w'=>e = .returned (.tuple #[.string (ek (zhu a)),.int .i64 0])/\Bw w w'):=fun w =>
  zoF a.val (zju a) w
 go_enter Tryz.func269, Tryz.ntmps269;go_wp2_with fail;refine cM (AD.out _) ?_;rintro e w1 ⟨rfl,hb⟩;have B1:Hid (Bw w w1):=hb;clear hb;go_wp2;go_ret;exact⟨rfl,B1.out⟩
theorem zaz (a b:K) (B:Nat) (w:Wo) (h0:w.cell? ⟨B,0,none⟩=some (.string (ek a))) (h1:w.cell? ⟨B,1,none⟩=some (.string (ek b))) :
  Cl 266 #[.slice (some ⟨B,0,none⟩) 2 2] w fun e w'=>e = .returned (.string (ek (a*b)))/\Bw w w':=by
 have AD:Hid (Cl 320 #[.slice (some ⟨B,0,none⟩) 2 2] w fun e w'=>e = .returned (.tuple #[.string (ek (a*b)),.int .i64 0])/\Bw w w') :=
  zmt a.val b.val B (zju a) (zju b) w h0 h1
 clear h0 h1;go_enter Tryz.func266, Tryz.ntmps266;go_wp2_with fail;refine cM AD.out ?_;rintro e w1 ⟨rfl,hb⟩;have B1:Hid (Bw w w1):=hb;clear hb;go_wp2;go_ret;exact⟨rfl,B1.out⟩
theorem zhy (a b c:K) (B:Nat) (w:Wo) (h0:w.cell? ⟨B,0,none⟩=some (.string (ek a))) (h1:w.cell? ⟨B,1,none⟩=some (.string (ek b))) (h2:w.cell? ⟨B,2,none⟩=some (.string (ek c))) :
  Cl 266 #[.slice (some ⟨B,0,none⟩) 3 3] w fun e w'=>e = .returned (.string (ek (a*b*c)))/\Bw w w':=by
 have AD:Hid (Cl 320 #[.slice (some ⟨B,0,none⟩) 3 3] w fun e w'=>e = .returned (.tuple #[.string (ek (a*b*c)),.int .i64 0])/\Bw w w') :=
  zmu a.val b.val c.val B (zju a) (zju b) (zju c) w h0 h1 h2
 clear h0 h1 h2;go_enter Tryz.func266, Tryz.ntmps266;go_wp2_with fail;refine cM AD.out ?_;rintro e w1 ⟨rfl,hb⟩;have B1:Hid (Bw w w1):=hb;clear hb;go_wp2;go_ret;exact⟨rfl,B1.out⟩
theorem zaV (n:Nat) (x:Int) (hx:x=(n:Int)) (hn:n<=2147483647) (w:Wo) :
  Cl 63 #[.int .i64 x] w fun e w'=>e = .returned (.string (enc n))/\Bw w w':=by
 subst hx;have AD:Hid (∀(w:Wo),Cl 111 #[.int .i64 n] w fun e w'=>e = .returned (.tuple #[.string (enc n),.int .i64 0])/\Bw w w'):=fun w =>
  zjP n hn w
 go_enter Tryz.func63, Tryz.ntmps63;go_wp2_with fail;refine cM (AD.out _) ?_;rintro e w1 ⟨rfl,hb⟩;have B1:Hid (Bw w w1):=hb;clear hb;go_wp2;go_ret;exact⟨rfl,B1.out⟩
theorem zfG (x z:K) (w:Wo) :
  Cl 264 #[.agg #[.string (ek x),.string (ek z)]] w fun e w'=>e = .returned (.string (ek (x+z)))/\Bw w w':=by
 go_enter Tryz.func264, Tryz.ntmps264;go_wp2_with fail;refine cM (zc5 x z _) ?_;rintro e w1 ⟨rfl,hb⟩;have B1:Hid (Bw w w1):=chain ((bQ _ _).alloc (nL _) _) hb;clear hb;go_wp2;go_ret;exact⟨rfl,B1.out⟩
theorem zdY (x z:K) (w:Wo) :
  Cl 265 #[.agg #[.string (ek x),.string (ek z)]] w fun e w'=>e = .returned (.string (ek (x - z)))/\Bw w w':=by
 go_enter Tryz.func265, Tryz.ntmps265;go_wp2_with fail;refine cM (zc6 x z _) ?_;rintro e w1 ⟨rfl,hb⟩;have B1:Hid (Bw w w1):=chain ((bQ _ _).alloc (nL _) _) hb;clear hb;go_wp2;go_ret;exact⟨rfl,B1.out⟩
theorem keep2 {W wc w1:Wo} {a b:Addr} {x z:Value} (hb:Bw wc w1) (h:wc.cell? a=some x/\wc.cell? b=some z/\Bw W wc) :
  w1.cell? a=some x/\w1.cell? b=some z/\Bw W w1:=⟨cell_later hb h.1,cell_later hb h.2.1,chain h.2.2 hb⟩
theorem zdZ (x z:K) (w:Wo) :
  Cl 189 #[.agg #[.string (ek x),.string (ek z)]] w fun e w'=>e = .returned (.string (ek (x*zhu z)))/\Below w.heap.size w w':=by
 have II:Hid (∀w,Cl 269 #[.string (ek z)] w fun e w'=>e = .returned (.string (ek (zhu z)))/\Below w.heap.size w w'):=zjQ z;generalize zhu z=t at *;go_enter Tryz.func189, Tryz.ntmps189;go_wp2;obtain⟨W,hW⟩:∃W,w.alloc (.cells #[.string (ek x),.string (ek z)] 273)=W:=⟨_,rfl⟩;have B0:Hid (Below w.heap.size w W):=hW ▸ (bQ _ _).alloc (nL _) _;have c0:W.cell? ⟨w.heap.size,0,none⟩=some (.string (ek x)):=by rw[<-hW];simp[go_sem]
 have c1:W.cell? ⟨w.heap.size,1,none⟩=some (.string (ek z)):=by rw[<-hW];simp[go_sem]
 rw[hW];clear hW;go_region_held3 (fun w'=>w'.cell? ⟨w.heap.size,0,none⟩=some (.string (ek x))/\w'.cell? ⟨w.heap.size,1,none⟩=some (.string (ek z))/\Below W.heap.size W w') (first|exact⟨c0,c1,(bQ _ _).drew⟩|exact keep2 (by assumption) (by assumption)|exact keep2 ((bQ _ _).alloc (nL _) _) (by assumption)) (first|(go_at_call 269;refine cM (II.out _) ?_;rintro e w1 ⟨rfl,hb⟩)|(go_at_call 266;refine cM (zaz x t _ _ ?_ ?_) ?_;(focus simp[go_sem]);(focus simp[go_sem]);rintro e w2 ⟨rfl,hb2⟩));rename_i hBW;have B1:Hid (Below w.heap.size w w2):=chain B0.out hBW.2.2;clear hBW;go_wp2;go_ret;exact⟨rfl,B1.out⟩
end Go.Proofs.YtjcppbhgjchjaaaGreatDoor.Crv
