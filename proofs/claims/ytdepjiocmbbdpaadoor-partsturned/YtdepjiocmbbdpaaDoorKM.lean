/- SHA-256, as the program's machine does it: words, a ring of sixteen, bytes one by one. -/
namespace Go.Proofs.Hs

def trn (x : UInt32) (n : Nat) : UInt32 := UInt32.ofNat (x.toNat / 2 ^ n + x.toNat * 2 ^ (32 - n))
def turned (x : UInt32) (k l n : Nat) : UInt32 := trn x k ^^^ trn x l ^^^ trn x n
def spread (x : UInt32) (k l n : Nat) : UInt32 := trn x k ^^^ trn x l ^^^ UInt32.ofNat (x.toNat / 2 ^ n)

def kst : List UInt32 := [
  0x428a2f98, 0x71374491, 0xb5c0fbcf, 0xe9b5dba5, 0x3956c25b, 0x59f111f1, 0x923f82a4, 0xab1c5ed5,
  0xd807aa98, 0x12835b01, 0x243185be, 0x550c7dc3, 0x72be5d74, 0x80deb1fe, 0x9bdc06a7, 0xc19bf174,
  0xe49b69c1, 0xefbe4786, 0x0fc19dc6, 0x240ca1cc, 0x2de92c6f, 0x4a7484aa, 0x5cb0a9dc, 0x76f988da,
  0x983e5152, 0xa831c66d, 0xb00327c8, 0xbf597fc7, 0xc6e00bf3, 0xd5a79147, 0x06ca6351, 0x14292967,
  0x27b70a85, 0x2e1b2138, 0x4d2c6dfc, 0x53380d13, 0x650a7354, 0x766a0abb, 0x81c2c92e, 0x92722c85,
  0xa2bfe8a1, 0xa81a664b, 0xc24b8b70, 0xc76c51a3, 0xd192e819, 0xd6990624, 0xf40e3585, 0x106aa070,
  0x19a4c116, 0x1e376c08, 0x2748774c, 0x34b0bcb5, 0x391c0cb3, 0x4ed8aa4a, 0x5b9cca4f, 0x682e6ff3,
  0x748f82ee, 0x78a5636f, 0x84c87814, 0x8cc70208, 0x90befffa, 0xa4506ceb, 0xbef9a3f7, 0xc67178f2]

structure V8 where
  a : UInt32
  b : UInt32
  c : UInt32
  d : UInt32
  e : UInt32
  f : UInt32
  g : UInt32
  h : UInt32

def rnd (v : V8) (k w : UInt32) : V8 :=
  let t := v.h + turned v.e 6 11 25 + ((v.e &&& v.f) ^^^ (~~~v.e &&& v.g)) + k + w
  let u := turned v.a 2 13 22 + ((v.a &&& v.b) ^^^ (v.a &&& v.c) ^^^ (v.b &&& v.c))
  ⟨t + u, v.a, v.b, v.c, v.d + t, v.e, v.f, v.g⟩

def rat (r : List UInt32) (i : Nat) : UInt32 := r.getD (i % 16) 0
/-- The ring once the i-th word is made. -/
def wring (r : List UInt32) (i : Nat) : List UInt32 :=
  if i < 16 then r else r.set (i % 16) (rat r i + (spread (rat r (i - 15)) 7 18 3 + rat r (i - 7) + spread (rat r (i - 2)) 17 19 10))

/-- Words and ring behind the first n rounds. -/
def rounds (v : V8) (r : List UInt32) : Nat → V8 × List UInt32
  | 0 => (v, r)
  | n + 1 => let p := rounds v r n
    let r' := wring p.2 n
    (rnd p.1 (kst.getD n 0) (rat r' n), r')

def V8.plus (v x : V8) : V8 := ⟨v.a + x.a, v.b + x.b, v.c + x.c, v.d + x.d, v.e + x.e, v.f + x.f, v.g + x.g, v.h + x.h⟩

/-- The machine. -/
structure Mach where
  v : V8
  r : List UInt32
  n : Nat

def Mach.mix (m : Mach) : Mach := let p := rounds m.v m.r 64; ⟨m.v.plus p.1, p.2, m.n⟩
def Mach.push (m : Mach) (b : UInt8) : Mach :=
  let k := m.n / 4 % 16
  ⟨m.v, m.r.set k (UInt32.ofNat ((m.r.getD k 0).toNat * 256 + b.toNat)), (m.n + 1) % 2 ^ 64⟩
def Mach.put (m : Mach) (b : UInt8) : Mach := let p := m.push b; if p.n % 64 = 0 then p.mix else p
def Mach.text (m : Mach) (l : List UInt8) : Mach := l.foldl Mach.put m
def be8 (n : Nat) : List UInt8 := (List.range 8).map fun i => UInt8.ofNat (n / 2 ^ (8 * (7 - i)))
def start : Mach := ⟨⟨0x6a09e667, 0xbb67ae85, 0x3c6ef372, 0xa54ff53a, 0x510e527f, 0x9b05688c, 0x1f83d9ab, 0x5be0cd19⟩, List.replicate 16 0, 0⟩
/-- Bytes 0 up to 56 modulo 64. -/
def padn (n : Nat) : Nat := (64 + 56 - n % 64) % 64
def Mach.pad (m : Mach) : Mach := m.text (List.replicate (padn m.n) 0)
def w4 (x : UInt32) : List UInt8 := [UInt8.ofNat (x.toNat / 2 ^ 24), UInt8.ofNat (x.toNat / 2 ^ 16), UInt8.ofNat (x.toNat / 2 ^ 8), UInt8.ofNat x.toNat]
def V8.out (v : V8) : List UInt8 := w4 v.a ++ w4 v.b ++ w4 v.c ++ w4 v.d ++ w4 v.e ++ w4 v.f ++ w4 v.g ++ w4 v.h
def Mach.fin (m : Mach) : List UInt8 := (((m.put 128).pad).text (be8 (8 * m.n % 2 ^ 64))).v.out
/-- The digest of bytes. -/
def sha (l : List UInt8) : List UInt8 := (start.text l).fin
end Go.Proofs.Hs
