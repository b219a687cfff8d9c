/- A part of the walk. -/
import Derived.Test.YtjcppbhgjchjaaaGreatDoorZr3G01
set_option maxHeartbeats 8000000
set_option maxRecDepth 20000
namespace Go.Proofs.Hs
def trn (x:UInt32) (n:Nat):UInt32:=UInt32.ofNat (x.toNat / 2 ^ n+x.toNat*2 ^ (32 - n))
def zbA (x:UInt32) (k l n:Nat):UInt32:=trn x k ^^^ trn x l ^^^ trn x n
def zba (x:UInt32) (k l n:Nat):UInt32:=trn x k ^^^ trn x l ^^^ UInt32.ofNat (x.toNat / 2 ^ n)
def kst:List UInt32:=[
 0x428a2f98,0x71374491,0xb5c0fbcf,0xe9b5dba5,0x3956c25b,0x59f111f1,0x923f82a4,0xab1c5ed5,
 0xd807aa98,0x12835b01,0x243185be,0x550c7dc3,0x72be5d74,0x80deb1fe,0x9bdc06a7,0xc19bf174,
 0xe49b69c1,0xefbe4786,0x0fc19dc6,0x240ca1cc,0x2de92c6f,0x4a7484aa,0x5cb0a9dc,0x76f988da,
 0x983e5152,0xa831c66d,0xb00327c8,0xbf597fc7,0xc6e00bf3,0xd5a79147,0x06ca6351,0x14292967,
 0x27b70a85,0x2e1b2138,0x4d2c6dfc,0x53380d13,0x650a7354,0x766a0abb,0x81c2c92e,0x92722c85,
 0xa2bfe8a1,0xa81a664b,0xc24b8b70,0xc76c51a3,0xd192e819,0xd6990624,0xf40e3585,0x106aa070,
 0x19a4c116,0x1e376c08,0x2748774c,0x34b0bcb5,0x391c0cb3,0x4ed8aa4a,0x5b9cca4f,0x682e6ff3,
 0x748f82ee,0x78a5636f,0x84c87814,0x8cc70208,0x90befffa,0xa4506ceb,0xbef9a3f7,0xc67178f2]
structure V8 where
 a:UInt32
 b:UInt32
 c:UInt32
 d:UInt32
 e:UInt32
 f:UInt32
 g:UInt32
 h:UInt32
def rnd (v:V8) (k w:UInt32):V8 :=
 let t:=v.h+zbA v.e 6 11 25+((v.e &&& v.f) ^^^ (~~~v.e &&& v.g))+k+w
 let u:=zbA v.a 2 13 22+((v.a &&& v.b) ^^^ (v.a &&& v.c) ^^^ (v.b &&& v.c))
 ⟨t+u,v.a,v.b,v.c,v.d+t,v.e,v.f,v.g⟩
def rat (r:List UInt32) (i:Nat):UInt32:=r.getD (i % 16) 0
def zbp (r:List UInt32) (i:Nat):List UInt32 :=
 if i < 16 then r else r.set (i % 16) (rat r i+(zba (rat r (i - 15)) 7 18 3+rat r (i - 7)+zba (rat r (i - 2)) 17 19 10))
def rounds (v:V8) (r:List UInt32):Nat->V8×List UInt32
 | 0=>(v,r)
 | n+1=>let p:=rounds v r n
  let r':=zbp p.2 n
  (rnd p.1 (kst.getD n 0) (rat r' n),r')
def V8.plus (v x:V8):V8:=⟨v.a+x.a,v.b+x.b,v.c+x.c,v.d+x.d,v.e+x.e,v.f+x.f,v.g+x.g,v.h+x.h⟩
structure zax where
 v:V8
 r:List UInt32
 n:Nat
def zax.mix (m:zax):zax:=let p:=rounds m.v m.r 64;⟨m.v.plus p.1,p.2,m.n⟩
def zax.push (m:zax) (b:UInt8):zax :=
 let k:=m.n / 4 % 16
 ⟨m.v,m.r.set k (UInt32.ofNat ((m.r.getD k 0).toNat*256+b.toNat)),(m.n+1) % 2 ^ 64⟩
def zax.put (m:zax) (b:UInt8):zax:=let p:=m.push b;if p.n % 64=0 then p.mix else p
def zax.text (m:zax) (l:List UInt8):zax:=l.foldl zax.put m
def be8 (n:Nat):List UInt8:=(List.range 8).map fun i=>UInt8.ofNat (n / 2 ^ (8*(7 - i)))
def start:zax:=⟨⟨0x6a09e667,0xbb67ae85,0x3c6ef372,0xa54ff53a,0x510e527f,0x9b05688c,0x1f83d9ab,0x5be0cd19⟩,List.replicate 16 0,0⟩
def zgC (n:Nat):Nat:=(64+56 - n % 64) % 64
def zax.pad (m:zax):zax:=m.text (List.replicate (zgC m.n) 0)
def w4 (x:UInt32):List UInt8:=[UInt8.ofNat (x.toNat / 2 ^ 24),UInt8.ofNat (x.toNat / 2 ^ 16),UInt8.ofNat (x.toNat / 2 ^ 8),UInt8.ofNat x.toNat]
def V8.out (v:V8):List UInt8:=w4 v.a++w4 v.b++w4 v.c++w4 v.d++w4 v.e++w4 v.f++w4 v.g++w4 v.h
def zax.fin (m:zax):List UInt8:=(((m.put 128).pad).text (be8 (8*m.n % 2 ^ 64))).v.out
def sha (l:List UInt8):List UInt8:=(start.text l).fin
def zeU (k:List UInt8):List UInt8:=if 64 < k.length then sha k else k
def k64 (k:List UInt8):List UInt8:=(List.range 64).map fun i=>k.getD i 0
def xk (c:UInt8) (k:List UInt8):List UInt8:=(k64 (zeU k)).map fun b=>b ^^^ c
def zd2 (k t:List UInt8):List UInt8:=sha (xk 92 k++sha (xk 54 k++t))
theorem zcb (k t:List UInt8):(zd2 k t).length=32:=rfl
theorem zaB (k:List UInt8):(k64 k).length=64:=by simp[k64]
theorem zfJ (c:UInt8) (k:List UInt8):(xk c k).length=64:=by simp[xk,zaB]
theorem zjX (k:List UInt8) (h:k.length<=64):zeU k=k:=by unfold zeU;rw[if_neg (by omega)]
theorem zjY (k:List UInt8) (h:64 < k.length):zeU k=sha k:=by unfold zeU;rw[if_pos h]
def tg (k info:List UInt8):Nat->List UInt8
 | 0=>[]
 | i+1=>zd2 k (tg k info i++info++[UInt8.ofNat (i+1)])
def tgs (k info:List UInt8):Nat->List UInt8
 | 0=>[]
 | i+1=>tgs k info i++tg k info (i+1)
theorem zjZ (k info:List UInt8) (i:Nat):tgs k info (i+1)=tgs k info i++tg k info (i+1):=rfl
theorem zhD (k info:List UInt8) (i:Nat):(tg k info (i+1)).length=32:=zcb _ _
theorem zhE (k info:List UInt8) (i:Nat):(tgs k info i).length=32*i:=by
 induction i with
 | zero=>rfl
 | succ i ih =>
  show (tgs k info i++tg k info (i+1)).length=_;rw[List.length_append,ih,zhD];omega
theorem zj0 (k info:List UInt8) (i j n:Nat) (hn:n<=32*i):(tgs k info (i+j)).take n=(tgs k info i).take n:=by
 induction j with
 | zero=>rfl
 | succ j ih =>
  show (tgs k info (i+j)++tg k info (i+j+1)).take n=_;rw[List.take_append_of_le_length (by rw[zhE];omega),ih]
def xpn (k info:List UInt8) (n:Nat):List UInt8:=(tgs k info ((n+31) / 32)).take n
theorem zoL (k info:List UInt8) (n i:Nat) (h:n<=32*i):(tgs k info i).take n=xpn k info n:=by
 unfold xpn;obtain⟨j,rfl⟩:∃j,i=(n+31) / 32+j:=⟨i - (n+31) / 32,by omega⟩;exact zj0 k info _ j n (by omega)
theorem zbs (k info:List UInt8) (n:Nat):(xpn k info n).length=n:=by
 unfold xpn;rw[List.length_take,zhE];omega
def drv (s label:List UInt8) (n:Nat):List UInt8:=xpn (zd2 [100,111,118,101,99,111,116,101] s) label n
end Go.Proofs.Hs
namespace Go.Proofs.YtjcppbhgjchjaaaGreatDoor
open Go.RowKit Go.Proofs.Fd
theorem zj1 (x y:UInt8):bits BinOp.xor IntKind.u8 (x.toNat:Int) (y.toNat:Int)=((x ^^^ y).toNat:Int):=by
 have h1:x.toNat < 2 ^ 8:=x.toNat_lt;have h2:y.toNat < 2 ^ 8:=y.toNat_lt;have h3:x.toNat ^^^ y.toNat < 2 ^ 8:=Nat.xor_lt_two_pow h1 h2;rw[UInt8.toNat_xor];have e1:x.toNat % 2 ^ IntKind.u8.bits=x.toNat:=Nat.mod_eq_of_lt h1;have e2:y.toNat % 2 ^ IntKind.u8.bits=y.toNat:=Nat.mod_eq_of_lt h2;simp only[bits,BitVec.ofInt_natCast,BitVec.toNat_xor,BitVec.toNat_ofNat,e1,e2];rw[IntKind.wrap_u8];omega
theorem zxu (x y:UInt8):bits BinOp.or IntKind.u8 (x.toNat:Int) (y.toNat:Int)=((x ||| y).toNat:Int):=by
 have h1:x.toNat < 2 ^ 8:=x.toNat_lt;have h2:y.toNat < 2 ^ 8:=y.toNat_lt;have h3:x.toNat ||| y.toNat < 2 ^ 8:=Nat.or_lt_two_pow h1 h2;rw[UInt8.toNat_or];have e1:x.toNat % 2 ^ IntKind.u8.bits=x.toNat:=Nat.mod_eq_of_lt h1;have e2:y.toNat % 2 ^ IntKind.u8.bits=y.toNat:=Nat.mod_eq_of_lt h2;simp only[bits,BitVec.ofInt_natCast,BitVec.toNat_or,BitVec.toNat_ofNat,e1,e2];rw[IntKind.wrap_u8];omega
def unl (a b:List UInt8):Nat->UInt8
 | 0=>0
 | k+1=>unl a b k ||| (a.getD k 0 ^^^ b.getD k 0)
theorem ztV (a b:List UInt8) (k:Nat):unl a b k=0↔∀j,j < k->a.getD j 0=b.getD j 0:=by
 induction k with
 | zero=>exact⟨fun _ j h=>absurd h (Nat.not_lt_zero _),fun _=>rfl⟩
 | succ k ih =>
  show unl a b k ||| (a.getD k 0 ^^^ b.getD k 0)=0↔_;rw[UInt8.or_eq_zero_iff,ih,UInt8.xor_eq_zero_iff];constructor
  ·rintro ⟨h1,h2⟩ j hj
   rcases Nat.lt_or_ge j k with h|h
   ·exact h1 j h
   ·obtain rfl:j=k:=by omega
    exact h2
  ·intro h
   exact⟨fun j hj=>h j (by omega),h k (by omega)⟩
theorem zvo (a b:Ba) (h:a.size=b.size):(unl a.data.toList b.data.toList a.size=0)↔a.toList=b.toList:=by
 rw[ztV,ByteArray.toList_eq,ByteArray.toList_eq];have h1:a.data.toList.length=a.size:=by simp
 have h2:b.data.toList.length=b.size:=by simp
 constructor
 ·intro g
  apply List.ext_getElem (by omega);intro i h3 h4;have:=g i (by omega);rw[List.getD_eq_getElem?_getD,List.getD_eq_getElem?_getD,List.getElem?_eq_getElem h3,List.getElem?_eq_getElem h4] at this;exact this
 ·intro g j _
  rw[g]
theorem zvp (a b:Ba) (w:Wo) (_:Hid (a.size<=140737488355328)) (hb:Hid (b.size<=140737488355328)) :
  Cl 241 #[.string a,.string b] w fun e w'=>e = .returned (.bool (a.toList == b.toList))/\Bw w w':=by
 by_cases hs:a.size=b.size
 ·have hs':(a.size:Int)=(b.size:Int):=by omega
  have F:Hid ((a.toList == b.toList)=decide (unl a.data.toList b.data.toList b.size=0)):=by
   show _=_;have h:=zvo a b hs;rw[hs] at h;by_cases q:a.toList=b.toList
   ·rw[decide_eq_true (h.2 q),q];simp
   ·rw[decide_eq_false (fun z=>q (h.1 z)),beq_eq_false_iff_ne];exact q
  rw[F.out];have HS:Hid (a.size=b.size):=hs;clear F hs;go_enter Tryz.func241, Tryz.ntmps241;go_wp2;go_loopw [5,14] (fun u i wr=>∃k:Nat,k<=b.size/\i = .int .i64 (k:Int)/\u = .int .u8 ((unl a.data.toList b.data.toList k).toNat:Int)/\Hid (Bw w wr)) (fun _ i _=>b.size - (intOf i).toNat)
  case atStart=>exact⟨0,Nat.zero_le _,rfl,rfl,bQ _ _⟩
  case round =>
   obtain⟨k,hk,rfl,rfl,I⟩:=hrel;by_cases hlt:k < b.size
   ·have g1:(k:Int) < (b.size:Int):=by omega
    have g2:(k:Int) < (a.size:Int):=by omega
    have g3:k < a.size:=by have:=HS.out;omega
    have UN:Hid (unl a.data.toList b.data.toList (k+1)=unl a.data.toList b.data.toList k ||| (a[k] ^^^ b[k])):=by
     show unl a.data.toList b.data.toList k ||| (a.data.toList.getD k 0 ^^^ b.data.toList.getD k 0)=_;rw[List.getD_eq_getElem?_getD,List.getElem?_eq_getElem (by simpa using g3),List.getD_eq_getElem?_getD,List.getElem?_eq_getElem (by simpa using hlt)];rfl
    generalize unl a.data.toList b.data.toList k=u at *;obtain⟨c,hc⟩:∃c,a[k]=c:=⟨_,rfl⟩;obtain⟨d,hd⟩:∃d,b[k]=d:=⟨_,rfl⟩;rw[hc,hd] at UN;have x1:=zj1 c d;have gk:(k:Int) < 140737488355328:=by have:=hb.out;omega
    go_wp2;go_region
    all_goals
     go_wp2;go_roundw
     case rel=>exact⟨k+1,by omega,by go_num,by rw[UN.out,<-zxu,UInt8.toNat_xor],I.out.drew⟩
     case measure=>simp[intOf];omega
   ·obtain rfl:k=b.size:=by omega
    have g1:¬(b.size:Int) < (b.size:Int):=by omega
    have E:Hid ((((unl a.data.toList b.data.toList b.size).toNat:Int) == 0)=decide (unl a.data.toList b.data.toList b.size=0)):=by
     generalize unl a.data.toList b.data.toList b.size=u;show _=_
     by_cases q:u=0
     ·subst q;rfl
     ·rw[decide_eq_false q,beq_eq_false_iff_ne]
      intro z;exact q (UInt8.toNat_inj.1 (by simpa using z))
    go_wp2;go_ret;exact⟨by rw[E.out];rfl,I.out⟩
 ·have hs':¬(a.size:Int)=(b.size:Int):=by omega
  have F:(a.toList == b.toList)=false:=by
   rw[beq_eq_false_iff_ne];intro h;rw[ByteArray.toList_eq,ByteArray.toList_eq] at h;apply hs;have:=congrArg List.length h
   simpa using this
  rw[F];clear F hs;go_enter Tryz.func241, Tryz.ntmps241;go_wp2;go_ret;exact⟨rfl,bQ _ _⟩
end Go.Proofs.YtjcppbhgjchjaaaGreatDoor
namespace Go.Proofs.YtjcppbhgjchjaaaGreatDoor
open Go.RowKit Go.Proofs.Fd Go.Proofs.Hs
theorem zp9 (n:Int) (h₀:0<=n) (h₁:n < 2 ^ 32):IntKind.u32.wrap n=n:=by rw[IntKind.wrap_u32];omega
theorem zxv (n:Int) (h₀:0<=n) (h₁:n < 2 ^ 64):IntKind.u64.wrap n=n:=by rw[IntKind.wrap_u64];omega
def tv (x:UInt32):Int:=(x.toNat:Int)
theorem zwj (x:UInt32):0<=tv x:=Int.natCast_nonneg _
theorem zwk (x:UInt32):tv x < 4294967296:=by have:=x.toNat_lt;unfold tv;omega
theorem zj2 (n:Nat):tv (UInt32.ofNat n)=((n % 4294967296:Nat):Int):=by unfold tv;rw[UInt32.toNat_ofNat']
theorem zc7 (x y:UInt32):bits .and .u32 (tv x) (tv y)=tv (x &&& y):=by
 unfold tv;rw[(bits_nat .u32 32 (by decide) zp9 x.toNat y.toNat x.toNat_lt y.toNat_lt).1,UInt32.toNat_and]
theorem zj3 (x y:UInt32):bits .or .u32 (tv x) (tv y)=tv (x ||| y):=by
 unfold tv;rw[(bits_nat .u32 32 (by decide) zp9 x.toNat y.toNat x.toNat_lt y.toNat_lt).2,UInt32.toNat_or]
theorem zcf (x y:UInt32):bits .xor .u32 (tv x) (tv y)=tv (x ^^^ y):=by
 unfold tv;have h1:x.toNat < 2 ^ 32:=x.toNat_lt;have h2:y.toNat < 2 ^ 32:=y.toNat_lt;have h3:x.toNat ^^^ y.toNat < 2 ^ 32:=Nat.xor_lt_two_pow h1 h2;rw[UInt32.toNat_xor];have e1:x.toNat % 2 ^ IntKind.u32.bits=x.toNat:=Nat.mod_eq_of_lt h1;have e2:y.toNat % 2 ^ IntKind.u32.bits=y.toNat:=Nat.mod_eq_of_lt h2;simp only[bits,BitVec.ofInt_natCast,BitVec.toNat_xor,BitVec.toNat_ofNat,e1,e2];rw[IntKind.wrap_u32];omega
theorem zc8 (x y:UInt32):IntKind.u32.wrap (tv x+tv y)=tv (x+y):=by
 unfold tv;rw[IntKind.wrap_u32,UInt32.toNat_add];omega
theorem zbB (x y:UInt32):(tv x+tv y) % 4294967296=tv (x+y):=by
 unfold tv;rw[UInt32.toNat_add];omega
theorem zqy (x:UInt32) (n:Nat):tv x / 2 ^ n=tv (UInt32.ofNat (x.toNat / 2 ^ n)):=by
 unfold tv;rw[UInt32.toNat_ofNat',Nat.mod_eq_of_lt (Nat.lt_of_le_of_lt (Nat.div_le_self _ _) x.toNat_lt)];simp
theorem zgD (k:Nat) (h1:1<=k) (h2:k<=31):bits .and .u64 (IntKind.u64.wrap (-(k:Int))) 31=((32 - k:Nat):Int):=by
 have e:IntKind.u64.wrap (-(k:Int))=((2 ^ 64 - k:Nat):Int):=by rw[IntKind.wrap_u64];omega
 rw[e];have:=bits_mask .u64 64 (by decide) zxv 5 (by decide) ((2 ^ 64 - k:Nat):Int) (by omega) (by omega);rw[show (2:Int) ^ 5 - 1=31 by decide] at this;rw[this];omega
theorem zoM (x:UInt32) (k:Nat) (h1:1<=k) (h2:k<=31) :
  bits .or .u32 (tv x*2 ^ (32 - k) % 4294967296) (tv x / 2 ^ k)=tv (trn x k):=by
 unfold tv;have hx:=x.toNat_lt;have e1:(x.toNat:Int)*2 ^ (32 - k) % 4294967296=((x.toNat*2 ^ (32 - k) % 2 ^ 32:Nat):Int):=by simp
 have e2:(x.toNat:Int) / 2 ^ k=((x.toNat / 2 ^ k:Nat):Int):=by simp
 have b1:x.toNat*2 ^ (32 - k) % 2 ^ 32 < 2 ^ 32:=Nat.mod_lt _ (by decide);have hk:(2:Nat) ^ k*2 ^ (32 - k)=2 ^ 32:=by rw[<-Nat.pow_add];congr 1;omega
 have b3:x.toNat / 2 ^ k < 2 ^ (32 - k):=by
  rw[Nat.div_lt_iff_lt_mul (Nat.two_pow_pos k),Nat.mul_comm,hk];exact hx
 have b2:x.toNat / 2 ^ k < 2 ^ 32:=Nat.lt_of_le_of_lt (Nat.div_le_self _ _) hx;rw[e1,e2,(bits_nat .u32 32 (by decide) zp9 _ _ b1 b2).2];have e3:x.toNat*2 ^ (32 - k) % 2 ^ 32=(x.toNat % 2 ^ k)*2 ^ (32 - k):=by
  rw[<-hk,Nat.mul_mod_mul_right]
 have e4:(x.toNat % 2 ^ k)*2 ^ (32 - k) ||| x.toNat / 2 ^ k=(x.toNat % 2 ^ k)*2 ^ (32 - k)+x.toNat / 2 ^ k:=by
  have:=Nat.shiftLeft_add_eq_or_of_lt b3 (x.toNat % 2 ^ k);rw[Nat.shiftLeft_eq] at this;exact this.symm
 have b5:(x.toNat % 2 ^ k)*2 ^ (32 - k)+x.toNat / 2 ^ k < 2 ^ 32:=by
  have:x.toNat % 2 ^ k < 2 ^ k:=Nat.mod_lt _ (Nat.two_pow_pos k);have:(x.toNat % 2 ^ k+1)*2 ^ (32 - k)<=2 ^ k*2 ^ (32 - k):=Nat.mul_le_mul_right _ this;rw[hk,Nat.add_mul,Nat.one_mul] at this;omega
 rw[e3,e4];unfold trn;rw[UInt32.toNat_ofNat'];congr 1;have e6:(x.toNat / 2 ^ k+x.toNat*2 ^ (32 - k)) % 2 ^ 32=(x.toNat / 2 ^ k+x.toNat*2 ^ (32 - k) % 2 ^ 32) % 2 ^ 32:=by
  rw[Nat.add_mod_mod]
 rw[e6,e3,Nat.add_comm (x.toNat / 2 ^ k),Nat.mod_eq_of_lt b5]
theorem zc9 (x:UInt32) (k:Nat) (h1:1<=k) (h2:k<=31) (w:Wo) :
  Cl 380 #[.int .u32 (tv x),.int .i64 (-(k:Int))] w fun e w'=>e = .returned (.int .u32 (tv (trn x k)))/\w'=w:=by
 have HA:=zgD k h1 h2;have HO:Hid (_=_):=zoM x k h1 h2;obtain⟨r,hr⟩:∃r,32 - k=r:=⟨_,rfl⟩;rw[hr] at HA HO;have h3:r<=32:=by omega
 have h4:(r:Int)<=32:=by omega
 have h5:IntKind.u64.wrap (32 - (r:Int))=(k:Int):=by rw[IntKind.wrap_u64];omega
 have h6:(k:Int)<=32:=by omega
 clear hr h1 h2;go_enter Tryz.func380, Tryz.ntmps380;go_wp2;go_ret;exact⟨by rw[<-HO.out];rfl,rfl⟩
attribute [local go_sem] zc7 zj3 zcf zc8 zbB
theorem zcK (x:UInt32) (k l n:Nat) (h1:1<=k/\k<=31) (h2:1<=l/\l<=31) (h3:1<=n/\n<=31) (w:Wo) :
  Cl 371 #[.int .u32 (tv x),.int .i64 (k:Int),.int .i64 (l:Int),.int .i64 (n:Int)] w fun e w'=>e = .returned (.int .u32 (tv (zbA x k l n)))/\w'=w:=by
 have g1:IntKind.i64.wrap (-(k:Int)) = -(k:Int):=by rw[IntKind.wrap_i64];omega
 have g2:IntKind.i64.wrap (-(l:Int)) = -(l:Int):=by rw[IntKind.wrap_i64];omega
 have g3:IntKind.i64.wrap (-(n:Int)) = -(n:Int):=by rw[IntKind.wrap_i64];omega
 have R1:Hid (∀w,Cl 380 #[.int .u32 (tv x),.int .i64 (-(k:Int))] w fun e w'=>e = .returned (.int .u32 (tv (trn x k)))/\w'=w):=zc9 x k h1.1 h1.2;have R2:Hid (∀w,Cl 380 #[.int .u32 (tv x),.int .i64 (-(l:Int))] w fun e w'=>e = .returned (.int .u32 (tv (trn x l)))/\w'=w):=zc9 x l h2.1 h2.2;have R3:Hid (∀w,Cl 380 #[.int .u32 (tv x),.int .i64 (-(n:Int))] w fun e w'=>e = .returned (.int .u32 (tv (trn x n)))/\w'=w):=zc9 x n h3.1 h3.2;clear h1 h2 h3;go_enter Tryz.func371, Tryz.ntmps371;go_wp2_with fail;refine cM (R1.out _) ?_;rintro e w1 ⟨rfl,rfl⟩;go_wp2_with fail;refine cM (R2.out _) ?_;rintro e w1 ⟨rfl,rfl⟩;go_wp2_with fail;refine cM (R3.out _) ?_;rintro e w1 ⟨rfl,rfl⟩;go_wp2;go_ret;exact⟨rfl,rfl⟩
theorem zcL (x:UInt32) (k l n:Nat) (h1:1<=k/\k<=31) (h2:1<=l/\l<=31) (h3:1<=n/\n<=31) (w:Wo) :
  Cl 381 #[.int .u32 (tv x),.int .i64 (k:Int),.int .i64 (l:Int),.int .i64 (n:Int)] w fun e w'=>e = .returned (.int .u32 (tv (zba x k l n)))/\∃m,w'=w.drewN m:=by
 have g1:IntKind.i64.wrap (-(k:Int)) = -(k:Int):=by rw[IntKind.wrap_i64];omega
 have g2:IntKind.i64.wrap (-(l:Int)) = -(l:Int):=by rw[IntKind.wrap_i64];omega
 have g3:(0:Int)<=(n:Int):=by omega
 have g4:(n:Int)<=32:=by omega
 have HM:Hid (_=_):=zqy x n;have RR:Hid (∀(j:Nat) (_:Hid (1<=j/\j<=31)) (w:Wo),Cl 380 #[.int .u32 (tv x),.int .i64 (-(j:Int))] w fun e w'=>e = .returned (.int .u32 (tv (trn x j)))/\w'=w):=fun j hj=>zc9 x j hj.out.1 hj.out.2
 have H1:Hid (1<=k/\k<=31):=h1;have H2:Hid (1<=l/\l<=31):=h2;clear h1 h2 h3;go_enter Tryz.func381, Tryz.ntmps381;go_wp2;go_region_held3 (fun _=>True) (trivial) (first|(go_at_call 380;refine cM (RR.out _ ?_ _) ?_;(focus assumption);rintro e w' ⟨rfl,rfl⟩));go_wp2;go_ret;refine⟨?_,1,rfl⟩;show Ending.returned (.int .u32 (bits .xor .u32 (tv (trn x k ^^^ trn x l)) (tv x / 2 ^ n)))=_
 rw[HM.out,zcf];rfl
end Go.Proofs.YtjcppbhgjchjaaaGreatDoor
