/- SHA-256 in plain words. -/
import Derived.Test.YtmijlojjkgeplaaBase
open Go Go.RowKit
namespace Go.Proofs.Ytmijlojjkgeplaa
def rotr (n x : Nat) : Nat := x / 2 ^ n + x % 2 ^ n * 2 ^ (32 - n)
def add32 (a b : Nat) : Nat := (a + b) % 4294967296
def ch32 (e f g : Nat) : Nat := (e &&& f) ^^^ ((4294967295 - e) &&& g)
def maj32 (a b c : Nat) : Nat := ((a &&& b) ^^^ (a &&& c)) ^^^ (b &&& c)
def bsig1 (e : Nat) : Nat := (rotr 6 e ^^^ rotr 11 e) ^^^ rotr 25 e
def bsig0 (a : Nat) : Nat := (rotr 2 a ^^^ rotr 13 a) ^^^ rotr 22 a
def ssig0 (x : Nat) : Nat := (rotr 7 x ^^^ rotr 18 x) ^^^ x / 8
def ssig1 (x : Nat) : Nat := (rotr 17 x ^^^ rotr 19 x) ^^^ x / 1024
theorem rotr_lt {n x : Nat} (hx : x < 4294967296) (h1 : 1 ≤ n) (h31 : n ≤ 31) : rotr n x < 4294967296 := by
  have h : ∀ n, n < 32 → 1 ≤ n → 2 ^ n * 2 ^ (32 - n) = 4294967296 := by decide
  have hm := h n (by omega) h1
  unfold rotr
  have h2 : x / 2 ^ n < 2 ^ (32 - n) := by
    rw [Nat.div_lt_iff_lt_mul (Nat.pow_pos (by decide)), Nat.mul_comm, hm]
    exact hx
  have h3 : x % 2 ^ n + 1 ≤ 2 ^ n := Nat.mod_lt _ (Nat.pow_pos (by decide))
  have h4 := Nat.mul_le_mul_right (2 ^ (32 - n)) h3
  rw [hm, Nat.add_mul, Nat.one_mul] at h4
  omega
theorem xor_lt {a b : Nat} (ha : a < 4294967296) (hb : b < 4294967296) : a ^^^ b < 4294967296 := Nat.xor_lt_two_pow (n := 32) ha hb
theorem and_lt {a : Nat} (b : Nat) (ha : a < 4294967296) : a &&& b < 4294967296 := by have := @Nat.and_le_left a b; omega
theorem add32_lt (a b : Nat) : add32 a b < 4294967296 := Nat.mod_lt _ (by decide)
theorem ch32_lt {e f g : Nat} (he : e < 4294967296) : ch32 e f g < 4294967296 := xor_lt (and_lt _ he) (and_lt _ (by omega))
theorem maj32_lt {a b c : Nat} (ha : a < 4294967296) (hb : b < 4294967296) : maj32 a b c < 4294967296 := xor_lt (xor_lt (and_lt _ ha) (and_lt _ ha)) (and_lt _ hb)
theorem bsig1_lt {e : Nat} (he : e < 4294967296) : bsig1 e < 4294967296 := xor_lt (xor_lt (rotr_lt he (by decide) (by decide)) (rotr_lt he (by decide) (by decide))) (rotr_lt he (by decide) (by decide))
theorem bsig0_lt {e : Nat} (he : e < 4294967296) : bsig0 e < 4294967296 := xor_lt (xor_lt (rotr_lt he (by decide) (by decide)) (rotr_lt he (by decide) (by decide))) (rotr_lt he (by decide) (by decide))
theorem ssig0_lt {e : Nat} (he : e < 4294967296) : ssig0 e < 4294967296 := xor_lt (xor_lt (rotr_lt he (by decide) (by decide)) (rotr_lt he (by decide) (by decide))) (by omega)
theorem ssig1_lt {e : Nat} (he : e < 4294967296) : ssig1 e < 4294967296 := xor_lt (xor_lt (rotr_lt he (by decide) (by decide)) (rotr_lt he (by decide) (by decide))) (by omega)
/-- the eight words of a state -/
structure V8 where
  a : Nat
  b : Nat
  c : Nat
  d : Nat
  e : Nat
  f : Nat
  g : Nat
  h : Nat
def V8.ok (v : V8) : Prop := v.a < 4294967296 ∧ v.b < 4294967296 ∧ v.c < 4294967296 ∧ v.d < 4294967296 ∧ v.e < 4294967296 ∧ v.f < 4294967296 ∧ v.g < 4294967296 ∧ v.h < 4294967296
def V8.l (v : V8) : List Nat := [v.a, v.b, v.c, v.d, v.e, v.f, v.g, v.h]
def V8.t1 (v : V8) (k w : Nat) : Nat := add32 (add32 (add32 (add32 v.h (bsig1 v.e)) (ch32 v.e v.f v.g)) k) w
def V8.t2 (v : V8) : Nat := add32 (bsig0 v.a) (maj32 v.a v.b v.c)
def V8.round (v : V8) (k w : Nat) : V8 := ⟨add32 (v.t1 k w) v.t2, v.a, v.b, v.c, add32 v.d (v.t1 k w), v.e, v.f, v.g⟩
theorem V8.ok_round {v : V8} (h : v.ok) (k w : Nat) : (v.round k w).ok := by
  obtain ⟨h1, h2, h3, h4, h5, h6, h7, h8⟩ := h
  exact ⟨add32_lt _ _, h1, h2, h3, add32_lt _ _, h5, h6, h7⟩
def V8.turn (ks ws : List Nat) : Nat → V8 → V8
  | 0, v => v
  | i + 1, v => (V8.turn ks ws i v).round (ks.getD i 0) (ws.getD i 0)
theorem V8.ok_turn {v : V8} (h : v.ok) (ks ws : List Nat) (i : Nat) : (V8.turn ks ws i v).ok := by
  induction i with
  | zero => exact h
  | succ i ih => exact V8.ok_round ih _ _
def V8.add (v u : V8) : V8 := ⟨add32 v.a u.a, add32 v.b u.b, add32 v.c u.c, add32 v.d u.d, add32 v.e u.e, add32 v.f u.f, add32 v.g u.g, add32 v.h u.h⟩
theorem V8.ok_add (v u : V8) : (v.add u).ok := ⟨add32_lt _ _, add32_lt _ _, add32_lt _ _, add32_lt _ _, add32_lt _ _, add32_lt _ _, add32_lt _ _, add32_lt _ _⟩
/-- a word of four bytes, the highest first -/
def word4 (p : List UInt8) (i : Nat) : Nat := (p.getD (4 * i) 0).toNat * 16777216 + (p.getD (4 * i + 1) 0).toNat * 65536 + (p.getD (4 * i + 2) 0).toNat * 256 + (p.getD (4 * i + 3) 0).toNat
theorem word4_lt (p : List UInt8) (i : Nat) : word4 p i < 4294967296 := by
  unfold word4
  have h1 := (p.getD (4 * i) 0).toNat_lt
  have h2 := (p.getD (4 * i + 1) 0).toNat_lt
  have h3 := (p.getD (4 * i + 2) 0).toNat_lt
  have h4 := (p.getD (4 * i + 3) 0).toNat_lt
  omega
def first16 (p : List UInt8) (k : Nat) : List Nat := (List.range k).map (word4 p)
def nextW (ws : List Nat) (i : Nat) : Nat := add32 (add32 (add32 (ws.getD (i - 16) 0) (ssig0 (ws.getD (i - 15) 0))) (ws.getD (i - 7) 0)) (ssig1 (ws.getD (i - 2) 0))
def sched (p : List UInt8) : Nat → List Nat
  | 0 => first16 p 16
  | i + 1 => sched p i ++ [nextW (sched p i) (16 + i)]
theorem first16_len (p : List UInt8) (k : Nat) : (first16 p k).length = k := by simp [first16]
theorem first16_succ (p : List UInt8) (k : Nat) : first16 p (k + 1) = first16 p k ++ [word4 p k] := by simp [first16, List.range_succ]
theorem sched_len (p : List UInt8) (i : Nat) : (sched p i).length = 16 + i := by
  induction i with
  | zero => simp [sched, first16_len]
  | succ i ih => simp [sched, ih]; omega
theorem sched_lt (p : List UInt8) (i : Nat) : ∀ x ∈ sched p i, x < 4294967296 := by
  induction i with
  | zero =>
    intro x hx
    obtain ⟨j, _, rfl⟩ := List.mem_map.1 hx
    exact word4_lt p j
  | succ i ih =>
    intro x hx
    rcases List.mem_append.1 hx with h | h
    · exact ih x h
    · rw [List.mem_singleton.1 h]
      exact add32_lt _ _
theorem getD_lt {l : List Nat} (h : ∀ x ∈ l, x < 4294967296) (i : Nat) : l.getD i 0 < 4294967296 := by
  rw [List.getD_eq_getElem?_getD]
  rcases hi : l[i]? with _ | x
  · decide
  · exact h x (List.mem_of_getElem? hi)
def kSha : List Nat := [
  0x428a2f98, 0x71374491, 0xb5c0fbcf, 0xe9b5dba5, 0x3956c25b, 0x59f111f1, 0x923f82a4, 0xab1c5ed5,
  0xd807aa98, 0x12835b01, 0x243185be, 0x550c7dc3, 0x72be5d74, 0x80deb1fe, 0x9bdc06a7, 0xc19bf174,
  0xe49b69c1, 0xefbe4786, 0x0fc19dc6, 0x240ca1cc, 0x2de92c6f, 0x4a7484aa, 0x5cb0a9dc, 0x76f988da,
  0x983e5152, 0xa831c66d, 0xb00327c8, 0xbf597fc7, 0xc6e00bf3, 0xd5a79147, 0x06ca6351, 0x14292967,
  0x27b70a85, 0x2e1b2138, 0x4d2c6dfc, 0x53380d13, 0x650a7354, 0x766a0abb, 0x81c2c92e, 0x92722c85,
  0xa2bfe8a1, 0xa81a664b, 0xc24b8b70, 0xc76c51a3, 0xd192e819, 0xd6990624, 0xf40e3585, 0x106aa070,
  0x19a4c116, 0x1e376c08, 0x2748774c, 0x34b0bcb5, 0x391c0cb3, 0x4ed8aa4a, 0x5b9cca4f, 0x682e6ff3,
  0x748f82ee, 0x78a5636f, 0x84c87814, 0x8cc70208, 0x90befffa, 0xa4506ceb, 0xbef9a3f7, 0xc67178f2]
theorem kSha_lt : ∀ x ∈ kSha, x < 4294967296 := by decide
theorem kSha_len : kSha.length = 64 := by decide
def initSha : V8 := ⟨0x6a09e667, 0xbb67ae85, 0x3c6ef372, 0xa54ff53a, 0x510e527f, 0x9b05688c, 0x1f83d9ab, 0x5be0cd19⟩
theorem initSha_ok : initSha.ok := by unfold V8.ok initSha; decide
def blkSha (v : V8) (p : List UInt8) : V8 := v.add (V8.turn kSha (sched p 48) 64 v)
def mixSha : Nat → V8 → List UInt8 → V8
  | 0, v, _ => v
  | n + 1, v, p => mixSha n (blkSha v (p.take 64)) (p.drop 64)
theorem mixSha_ok {v : V8} (h : v.ok) (n : Nat) (p : List UInt8) : (mixSha n v p).ok := by
  induction n generalizing v p with
  | zero => exact h
  | succ n ih => exact ih (V8.ok_add _ _) _
theorem mixSha_snoc (v : V8) (n : Nat) (p : List UInt8) : mixSha (n + 1) v p = blkSha (mixSha n v p) ((p.drop (64 * n)).take 64) := by
  induction n generalizing v p with
  | zero => rfl
  | succ n ih =>
    rw [mixSha, ih, mixSha, List.drop_drop]
    congr 3
    omega
theorem mixSha_add (v : V8) (a b : Nat) (p : List UInt8) : mixSha (a + b) v p = mixSha b (mixSha a v p) (p.drop (64 * a)) := by
  induction a generalizing v p with
  | zero => simp [mixSha]
  | succ a ih =>
    rw [show a + 1 + b = (a + b) + 1 by omega, mixSha, ih, mixSha, List.drop_drop]
    congr 2
    omega
theorem mixSha_take (v : V8) (n : Nat) (p q : List UInt8) (h : p.length = 64 * n) : mixSha n v (p ++ q) = mixSha n v p := by
  induction n generalizing v p with
  | zero => rfl
  | succ n ih =>
    rw [mixSha, mixSha, List.take_append_of_le_length (by omega), List.drop_append_of_le_length (by omega), ih _ _ (by simp; omega)]
/-- a length in eight bytes, the highest first -/
def be64 (n : Nat) : List UInt8 := (List.range 8).map fun i => UInt8.ofNat (n / 2 ^ (8 * (7 - i)))
def noughtBytes (n : Nat) : List UInt8 := List.replicate n 0
/-- how many noughts stand behind the mark -/
def padN (n : Nat) : Nat := (119 - n % 64) % 64
def padded (p : List UInt8) : List UInt8 := p ++ [128] ++ noughtBytes (padN p.length) ++ be64 (8 * p.length)
theorem padded_len (p : List UInt8) : (padded p).length = 64 * ((p.length + 72) / 64) := by
  simp [padded, noughtBytes, be64, padN]
  omega
def outSha (v : V8) : List UInt8 := (List.range 32).map fun i => UInt8.ofNat (v.l.getD (i / 4) 0 / 2 ^ (24 - 8 * (i % 4)))
def sha (p : List UInt8) : List UInt8 := outSha (mixSha ((p.length + 72) / 64) initSha (padded p))
theorem sha_len (p : List UInt8) : (sha p).length = 32 := by simp [sha, outSha]
theorem u32_wrap (a b : Nat) : ((a : Int) + (b : Int)) % 4294967296 = ((add32 a b : Nat) : Int) := by unfold add32; omega
theorem u32_xor_eq (a b x : Nat) (h : x = a ^^^ b) (ha : a < 4294967296) (hb : b < 4294967296) : bits .xor .u32 (a : Int) (b : Int) = (x : Int) := by rw [h]; exact u32_xor_nat a b ha hb
theorem u32_and_eq (a b x : Nat) (h : x = a &&& b) (ha : a < 4294967296) (hb : b < 4294967296) : bits .and .u32 (a : Int) (b : Int) = (x : Int) := by rw [h]; exact u32_and_nat a b ha hb
theorem u32_wrap_mod (x : Int) : IntKind.u32.wrap x = x % 4294967296 := by simp [IntKind.wrap, IntKind.bits, IntKind.signed]
theorem u32_add_eq (a b x : Nat) (h : x = add32 a b) : IntKind.u32.wrap ((a : Int) + (b : Int)) = (x : Int) := by rw [u32_wrap_mod, h]; exact u32_wrap a b
theorem u32_add_mod (a b x : Nat) (h : x = add32 a b) : ((a : Int) + (b : Int)) % 4294967296 = (x : Int) := by rw [h]; exact u32_wrap a b
theorem rotr_bits (n x : Nat) (hx : x < 4294967296) (h1 : 1 ≤ n) (h31 : n ≤ 31) : x * 2 ^ (32 - n) % 4294967296 ||| x / 2 ^ n = rotr n x ∧ x / 2 ^ n ||| x * 2 ^ (32 - n) % 4294967296 = rotr n x := by
  have h : ∀ n, n < 32 → 1 ≤ n → 2 ^ n * 2 ^ (32 - n) = 4294967296 := by decide
  have hm := h n (by omega) h1
  have hd : x / 2 ^ n < 2 ^ (32 - n) := by
    rw [Nat.div_lt_iff_lt_mul (Nat.pow_pos (by decide)), Nat.mul_comm, hm]
    exact hx
  have hr : x * 2 ^ (32 - n) % 4294967296 = x % 2 ^ n * 2 ^ (32 - n) := by
    rw [← hm, Nat.mul_mod_mul_right]
  have e1 : x % 2 ^ n * 2 ^ (32 - n) ||| x / 2 ^ n = x % 2 ^ n * 2 ^ (32 - n) + x / 2 ^ n := by
    rw [Nat.mul_comm]
    exact (Nat.two_pow_add_eq_or_of_lt hd _).symm
  unfold rotr
  rw [hr]
  refine ⟨by rw [e1, Nat.add_comm], by rw [Nat.or_comm, e1, Nat.add_comm]⟩
end Go.Proofs.Ytmijlojjkgeplaa
