/- The plain functions of layer 7: words of 32 bits, a block's step, what stands behind a text, digests. No program's number stands here. -/
import Derived.Test.YtllodapnbdbpeaaNumW
namespace Go.Proofs.Ytllodapnbdbpeaa
open Go.RowKit

/-- Turned to the right. -/
def rr (x : BitVec 32) (n : Nat) : BitVec 32 := (x >>> n) ||| (x <<< (32 - n))
def tS (x : BitVec 32) (a b c : Nat) : BitVec 32 := rr x a ^^^ rr x b ^^^ rr x c
def tT (x : BitVec 32) (a b c : Nat) : BitVec 32 := rr x a ^^^ rr x b ^^^ (x >>> c)

/-- A state. -/
structure St where
  a : BitVec 32
  b : BitVec 32
  c : BitVec 32
  d : BitVec 32
  e : BitVec 32
  f : BitVec 32
  g : BitVec 32
  h : BitVec 32

def St.list (s : St) : List (BitVec 32) := [s.a, s.b, s.c, s.d, s.e, s.f, s.g, s.h]
def St.t1 (s : St) (k w : BitVec 32) : BitVec 32 := s.h + tS s.e 6 11 25 + ((s.e &&& s.f) ^^^ (~~~ s.e &&& s.g)) + k + w
def St.t2 (s : St) : BitVec 32 := tS s.a 2 13 22 + ((s.a &&& s.b) ^^^ (s.a &&& s.c) ^^^ (s.b &&& s.c))
def St.rnd (s : St) (k w : BitVec 32) : St := ⟨s.t1 k w + s.t2, s.a, s.b, s.c, s.d + s.t1 k w, s.e, s.f, s.g⟩
def St.add (s t : St) : St := ⟨s.a + t.a, s.b + t.b, s.c + t.c, s.d + t.d, s.e + t.e, s.f + t.f, s.g + t.g, s.h + t.h⟩

def kL : List (BitVec 32) := [0x428a2f98#32, 0x71374491#32, 0xb5c0fbcf#32, 0xe9b5dba5#32, 0x3956c25b#32, 0x59f111f1#32, 0x923f82a4#32, 0xab1c5ed5#32,
  0xd807aa98#32, 0x12835b01#32, 0x243185be#32, 0x550c7dc3#32, 0x72be5d74#32, 0x80deb1fe#32, 0x9bdc06a7#32, 0xc19bf174#32,
  0xe49b69c1#32, 0xefbe4786#32, 0x0fc19dc6#32, 0x240ca1cc#32, 0x2de92c6f#32, 0x4a7484aa#32, 0x5cb0a9dc#32, 0x76f988da#32,
  0x983e5152#32, 0xa831c66d#32, 0xb00327c8#32, 0xbf597fc7#32, 0xc6e00bf3#32, 0xd5a79147#32, 0x06ca6351#32, 0x14292967#32,
  0x27b70a85#32, 0x2e1b2138#32, 0x4d2c6dfc#32, 0x53380d13#32, 0x650a7354#32, 0x766a0abb#32, 0x81c2c92e#32, 0x92722c85#32,
  0xa2bfe8a1#32, 0xa81a664b#32, 0xc24b8b70#32, 0xc76c51a3#32, 0xd192e819#32, 0xd6990624#32, 0xf40e3585#32, 0x106aa070#32,
  0x19a4c116#32, 0x1e376c08#32, 0x2748774c#32, 0x34b0bcb5#32, 0x391c0cb3#32, 0x4ed8aa4a#32, 0x5b9cca4f#32, 0x682e6ff3#32,
  0x748f82ee#32, 0x78a5636f#32, 0x84c87814#32, 0x8cc70208#32, 0x90befffa#32, 0xa4506ceb#32, 0xbef9a3f7#32, 0xc67178f2#32]

def st0 : St := ⟨0x6a09e667#32, 0xbb67ae85#32, 0x3c6ef372#32, 0xa54ff53a#32, 0x510e527f#32, 0x9b05688c#32, 0x1f83d9ab#32, 0x5be0cd19#32⟩

/-- The next word, of those that there are. -/
def wnx (b : List UInt8) (l : List (BitVec 32)) (k : Nat) : BitVec 32 :=
  if k < 16 then BitVec.ofNat 32 (beNat ((b.drop (4 * k)).take 4))
  else l.getD (k - 16) 0 + tT (l.getD (k - 15) 0) 7 18 3 + l.getD (k - 7) 0 + tT (l.getD (k - 2) 0) 17 19 10
def wL (b : List UInt8) : Nat → List (BitVec 32)
  | 0 => []
  | k + 1 => wL b k ++ [wnx b (wL b k) k]
theorem wL_length (b : List UInt8) : ∀ k, (wL b k).length = k
  | 0 => rfl
  | k + 1 => by rw [wL, List.length_append, wL_length b k]; rfl

def rN (s : St) (ws : List (BitVec 32)) : Nat → St
  | 0 => s
  | k + 1 => (rN s ws k).rnd (kL.getD k 0) (ws.getD k 0)

def nxt (s : St) (b : List UInt8) : St := s.add (rN s (wL b 64) 64)

/-- What stands behind a text of n bytes. -/
def padL (n : Nat) : List UInt8 := 128 :: (List.replicate (63 - (n % 64 + 8) % 64) 0 ++ be (8 * n) 8)

/-- The state behind the first k blocks. -/
def blks (s : St) (l : List UInt8) : Nat → St
  | 0 => s
  | k + 1 => nxt (blks s l k) ((l.drop (64 * k)).take 64)
def outL (l : List (BitVec 32)) : List UInt8 := l.flatMap fun x => be x.toNat 4
def shaL (l : List UInt8) : List UInt8 := outL (blks st0 (l ++ padL l.length) ((l ++ padL l.length).length / 64)).list

theorem blks_app (s : St) (l x : List UInt8) : ∀ k, 64 * k ≤ l.length → blks s (l ++ x) k = blks s l k
  | 0, _ => rfl
  | k + 1, h => by
    rw [blks, blks, blks_app s l x k (by omega), List.drop_append_of_le_length (by omega), List.take_append_of_le_length (by simp; omega)]

theorem padL_length (n : Nat) : (padL n).length = 72 - (n % 64 + 8) % 64 := by
  simp [padL, be_length]; omega

set_option maxRecDepth 100000 in
theorem shaL_abc : shaL [97, 98, 99] = [0xba, 0x78, 0x16, 0xbf, 0x8f, 0x01, 0xcf, 0xea, 0x41, 0x41, 0x40, 0xde, 0x5d, 0xae, 0x22, 0x23, 0xb0, 0x03, 0x61, 0xa3, 0x96, 0x17, 0x7a, 0x9c, 0xb4, 0x10, 0xff, 0x61, 0xf2, 0x00, 0x15, 0xad] := by
  decide +kernel
end Go.Proofs.Ytllodapnbdbpeaa
