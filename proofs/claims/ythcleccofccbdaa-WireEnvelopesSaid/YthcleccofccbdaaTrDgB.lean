/- Dig, DgB -/
import Derived.Test.YthcleccofccbdaaTrBase
import Derived.Test.YthcleccofccbdaaProg
import Derived.StillTailTactics
import Derived.Deep.WholeRow
section
section
open Go Go.RowKit
namespace Go.Proofs.Ythcleccofccbdaa
def rotr (n x : Nat) : Nat := x / 2 ^ n + x % 2 ^ n * 2 ^ (32 - n)
def add32 (a b : Nat) : Nat := (a + b) % 4294967296
def ch32 (e f g : Nat) : Nat := (e &&& f) ^^^ ((4294967295 - e) &&& g)
def maj32 (a b c : Nat) : Nat := ((a &&& b) ^^^ (a &&& c)) ^^^ (b &&& c)
def bsig1 (e : Nat) : Nat := (rotr 6 e ^^^ rotr 11 e) ^^^ rotr 25 e
def bsig0 (a : Nat) : Nat := (rotr 2 a ^^^ rotr 13 a) ^^^ rotr 22 a
def ssig0 (x : Nat) : Nat := (rotr 7 x ^^^ rotr 18 x) ^^^ x / 8
def ssig1 (x : Nat) : Nat := (rotr 17 x ^^^ rotr 19 x) ^^^ x / 1024
/-- the eight words of a state -/
structure V8 where
  a : Nat
  b : Nat
  c : Nat
  d : Nat
  e : Nat
  f : Nat
  g : Nat
  h : Nat
def V8.ok (v : V8) : Prop := v.a < 4294967296 ∧ v.b < 4294967296 ∧ v.c < 4294967296 ∧ v.d < 4294967296 ∧ v.e < 4294967296 ∧ v.f < 4294967296 ∧ v.g < 4294967296 ∧ v.h < 4294967296
def V8.l (v : V8) : List Nat := [v.a, v.b, v.c, v.d, v.e, v.f, v.g, v.h]
def V8.t1 (v : V8) (k w : Nat) : Nat := add32 (add32 (add32 (add32 v.h (bsig1 v.e)) (ch32 v.e v.f v.g)) k) w
def V8.t2 (v : V8) : Nat := add32 (bsig0 v.a) (maj32 v.a v.b v.c)
def V8.round (v : V8) (k w : Nat) : V8 := ⟨add32 (v.t1 k w) v.t2, v.a, v.b, v.c, add32 v.d (v.t1 k w), v.e, v.f, v.g⟩
def V8.turn (ks ws : List Nat) : Nat → V8 → V8
  | 0, v => v
  | i + 1, v => (V8.turn ks ws i v).round (ks.getD i 0) (ws.getD i 0)
def V8.add (v u : V8) : V8 := ⟨add32 v.a u.a, add32 v.b u.b, add32 v.c u.c, add32 v.d u.d, add32 v.e u.e, add32 v.f u.f, add32 v.g u.g, add32 v.h u.h⟩
/-- a word of four bytes, the highest first -/
def word4 (p : List UInt8) (i : Nat) : Nat := (p.getD (4 * i) 0).toNat * 16777216 + (p.getD (4 * i + 1) 0).toNat * 65536 + (p.getD (4 * i + 2) 0).toNat * 256 + (p.getD (4 * i + 3) 0).toNat
def first16 (p : List UInt8) (k : Nat) : List Nat := (List.range k).map (word4 p)
def nextW (ws : List Nat) (i : Nat) : Nat := add32 (add32 (add32 (ws.getD (i - 16) 0) (ssig0 (ws.getD (i - 15) 0))) (ws.getD (i - 7) 0)) (ssig1 (ws.getD (i - 2) 0))
def sched (p : List UInt8) : Nat → List Nat
  | 0 => first16 p 16
  | i + 1 => sched p i ++ [nextW (sched p i) (16 + i)]
def kSha : List Nat := [
  0x428a2f98, 0x71374491, 0xb5c0fbcf, 0xe9b5dba5, 0x3956c25b, 0x59f111f1, 0x923f82a4, 0xab1c5ed5,
  0xd807aa98, 0x12835b01, 0x243185be, 0x550c7dc3, 0x72be5d74, 0x80deb1fe, 0x9bdc06a7, 0xc19bf174,
  0xe49b69c1, 0xefbe4786, 0x0fc19dc6, 0x240ca1cc, 0x2de92c6f, 0x4a7484aa, 0x5cb0a9dc, 0x76f988da,
  0x983e5152, 0xa831c66d, 0xb00327c8, 0xbf597fc7, 0xc6e00bf3, 0xd5a79147, 0x06ca6351, 0x14292967,
  0x27b70a85, 0x2e1b2138, 0x4d2c6dfc, 0x53380d13, 0x650a7354, 0x766a0abb, 0x81c2c92e, 0x92722c85,
  0xa2bfe8a1, 0xa81a664b, 0xc24b8b70, 0xc76c51a3, 0xd192e819, 0xd6990624, 0xf40e3585, 0x106aa070,
  0x19a4c116, 0x1e376c08, 0x2748774c, 0x34b0bcb5, 0x391c0cb3, 0x4ed8aa4a, 0x5b9cca4f, 0x682e6ff3,
  0x748f82ee, 0x78a5636f, 0x84c87814, 0x8cc70208, 0x90befffa, 0xa4506ceb, 0xbef9a3f7, 0xc67178f2]
def initSha : V8 := ⟨0x6a09e667, 0xbb67ae85, 0x3c6ef372, 0xa54ff53a, 0x510e527f, 0x9b05688c, 0x1f83d9ab, 0x5be0cd19⟩
def blkSha (v : V8) (p : List UInt8) : V8 := v.add (V8.turn kSha (sched p 48) 64 v)
def mixSha : Nat → V8 → List UInt8 → V8
  | 0, v, _ => v
  | n + 1, v, p => mixSha n (blkSha v (p.take 64)) (p.drop 64)
/-- a length in eight bytes, the highest first -/
def be64 (n : Nat) : List UInt8 := (List.range 8).map fun i => UInt8.ofNat (n / 2 ^ (8 * (7 - i)))
def noughtBytes (n : Nat) : List UInt8 := List.replicate n 0
/-- how many noughts stand behind the mark -/
def padN (n : Nat) : Nat := (119 - n % 64) % 64
def padded (p : List UInt8) : List UInt8 := p ++ [128] ++ noughtBytes (padN p.length) ++ be64 (8 * p.length)
def outSha (v : V8) : List UInt8 := (List.range 32).map fun i => UInt8.ofNat (v.l.getD (i / 4) 0 / 2 ^ (24 - 8 * (i % 4)))
def sha (p : List UInt8) : List UInt8 := outSha (mixSha ((p.length + 72) / 64) initSha (padded p))
theorem sha_len (p : List UInt8) : (sha p).length = 32 := by simp [sha, outSha]
end Go.Proofs.Ythcleccofccbdaa
end
section
open Go Go.RowKit
namespace Go.Proofs.Ythcleccofccbdaa
end Go.Proofs.Ythcleccofccbdaa
end
section
open Go Go.RowKit
namespace Go.Proofs.Ythcleccofccbdaa
def addPart (v u : V8) (k : Nat) : List Nat := (List.range 8).map fun i => if i < k then add32 (v.l.getD i 0) (u.l.getD i 0) else v.l.getD i 0
end Go.Proofs.Ythcleccofccbdaa
end
section
open Go Go.RowKit
namespace Go.Proofs.Ythcleccofccbdaa
def pad64 (l : List Nat) : List Nat := l ++ List.replicate (64 - l.length) 0
end Go.Proofs.Ythcleccofccbdaa
end
section
open Go Go.RowKit
namespace Go.Proofs.Ythcleccofccbdaa
theorem Apart.part {S : Nat → Prop} {A : Option Addr} {p q : List UInt8} (h : Apart S A (bs p)) (hq : q ≠ [] → p ≠ []) : Apart S A (bs q) := fun hne ad e =>
  h (by
    have : q ≠ [] := by rintro rfl; exact hne rfl
    have h2 := hq this
    intro h3
    exact h2 (by simpa [bs] using h3)) ad e
end Go.Proofs.Ythcleccofccbdaa
end
section
open Go Go.RowKit
namespace Go.Proofs.Ythcleccofccbdaa
def outByte (v : V8) (i : Nat) : UInt8 := UInt8.ofNat (v.l.getD (i / 4) 0 / 2 ^ (24 - 8 * (i % 4)))
def outPart (v : V8) (k : Nat) : List UInt8 := (List.range 32).map fun i => if i < k then outByte v i else 0
end Go.Proofs.Ythcleccofccbdaa
end
section
open Go Go.RowKit
namespace Go.Proofs.Ythcleccofccbdaa
def nots (n : Nat) : List UInt8 := List.replicate n 0
theorem nots_len (n : Nat) : (nots n).length = n := by simp [nots]
/-- the length's eight bytes, the last i of them laid -/
def winN (N i : Nat) : List UInt8 := nots (8 - i) ++ (be64 N).drop (8 - i)
/-- the end's room: what is left over, the mark, noughts, the length -/
def endWin (p : List UInt8) (N to i : Nat) : List UInt8 := p ++ [128] ++ nots (to - p.length - 9) ++ winN N i ++ nots (128 - to)
end Go.Proofs.Ythcleccofccbdaa
end
end
section
open Go Go.RowKit
namespace Go.Proofs.Ythcleccofccbdaa
end Go.Proofs.Ythcleccofccbdaa
end
