/- Dig -/
import Derived.Test.YtmnapacibpnodaaGreatUeBase
import Derived.Test.YtmnapacibpnodaaGreatProg
import Derived.StillTailTactics
import Derived.Deep.WholeRow
section
open Go Go.RowKit
namespace Go.Proofs.YtmnapacibpnodaaGreat
def rotr (n x : Nat) : Nat := x / 2 ^ n + x % 2 ^ n * 2 ^ (32 - n)
def add32 (a b : Nat) : Nat := (a + b) % 4294967296
def ch32 (e f g : Nat) : Nat := (e &&& f) ^^^ ((4294967295 - e) &&& g)
def maj32 (a b c : Nat) : Nat := ((a &&& b) ^^^ (a &&& c)) ^^^ (b &&& c)
def bsig1 (e : Nat) : Nat := (rotr 6 e ^^^ rotr 11 e) ^^^ rotr 25 e
def bsig0 (a : Nat) : Nat := (rotr 2 a ^^^ rotr 13 a) ^^^ rotr 22 a
def ssig0 (x : Nat) : Nat := (rotr 7 x ^^^ rotr 18 x) ^^^ x / 8
def ssig1 (x : Nat) : Nat := (rotr 17 x ^^^ rotr 19 x) ^^^ x / 1024
theorem rotr_lt {n x : Nat} (hx : x < 4294967296) (h1 : 1 ≤ n) (h31 : n ≤ 31) : rotr n x < 4294967296 := by
  have h : ∀ n, n < 32 → 1 ≤ n → 2 ^ n * 2 ^ (32 - n) = 4294967296 := by decide
  have hm := h n (by omega) h1
  unfold rotr
  have h2 : x / 2 ^ n < 2 ^ (32 - n) := by
    rw [Nat.div_lt_iff_lt_mul (Nat.pow_pos (by decide)), Nat.mul_comm, hm]
    exact hx
  have h3 : x % 2 ^ n + 1 ≤ 2 ^ n := Nat.mod_lt _ (Nat.pow_pos (by decide))
  have h4 := Nat.mul_le_mul_right (2 ^ (32 - n)) h3
  rw [hm, Nat.add_mul, Nat.one_mul] at h4
  omega
theorem xor_lt {a b : Nat} (ha : a < 4294967296) (hb : b < 4294967296) : a ^^^ b < 4294967296 := Nat.xor_lt_two_pow (n := 32) ha hb
theorem and_lt {a : Nat} (b : Nat) (ha : a < 4294967296) : a &&& b < 4294967296 := by have := @Nat.and_le_left a b; omega
theorem add32_lt (a b : Nat) : add32 a b < 4294967296 := Nat.mod_lt _ (by decide)
/-- the eight words of a state -/
structure V8 where
  a : Nat
  b : Nat
  c : Nat
  d : Nat
  e : Nat
  f : Nat
  g : Nat
  h : Nat
def V8.ok (v : V8) : Prop := v.a < 4294967296 ∧ v.b < 4294967296 ∧ v.c < 4294967296 ∧ v.d < 4294967296 ∧ v.e < 4294967296 ∧ v.f < 4294967296 ∧ v.g < 4294967296 ∧ v.h < 4294967296
def V8.l (v : V8) : List Nat := [v.a, v.b, v.c, v.d, v.e, v.f, v.g, v.h]
def V8.t1 (v : V8) (k w : Nat) : Nat := add32 (add32 (add32 (add32 v.h (bsig1 v.e)) (ch32 v.e v.f v.g)) k) w
def V8.t2 (v : V8) : Nat := add32 (bsig0 v.a) (maj32 v.a v.b v.c)
def V8.round (v : V8) (k w : Nat) : V8 := ⟨add32 (v.t1 k w) v.t2, v.a, v.b, v.c, add32 v.d (v.t1 k w), v.e, v.f, v.g⟩
theorem V8.ok_round {v : V8} (h : v.ok) (k w : Nat) : (v.round k w).ok := by
  obtain ⟨h1, h2, h3, h4, h5, h6, h7, h8⟩ := h
  exact ⟨add32_lt _ _, h1, h2, h3, add32_lt _ _, h5, h6, h7⟩
def V8.turn (ks ws : List Nat) : Nat → V8 → V8
  | 0, v => v
  | i + 1, v => (V8.turn ks ws i v).round (ks.getD i 0) (ws.getD i 0)
theorem V8.ok_turn {v : V8} (h : v.ok) (ks ws : List Nat) (i : Nat) : (V8.turn ks ws i v).ok := by
  induction i with
  | zero => exact h
  | succ i ih => exact V8.ok_round ih _ _
def V8.add (v u : V8) : V8 := ⟨add32 v.a u.a, add32 v.b u.b, add32 v.c u.c, add32 v.d u.d, add32 v.e u.e, add32 v.f u.f, add32 v.g u.g, add32 v.h u.h⟩
theorem V8.ok_add (v u : V8) : (v.add u).ok := ⟨add32_lt _ _, add32_lt _ _, add32_lt _ _, add32_lt _ _, add32_lt _ _, add32_lt _ _, add32_lt _ _, add32_lt _ _⟩
/-- a word of four bytes, the highest first -/
def word4 (p : List UInt8) (i : Nat) : Nat := (p.getD (4 * i) 0).toNat * 16777216 + (p.getD (4 * i + 1) 0).toNat * 65536 + (p.getD (4 * i + 2) 0).toNat * 256 + (p.getD (4 * i + 3) 0).toNat
theorem word4_lt (p : List UInt8) (i : Nat) : word4 p i < 4294967296 := by
  unfold word4
  have h1 := (p.getD (4 * i) 0).toNat_lt
  have h2 := (p.getD (4 * i + 1) 0).toNat_lt
  have h3 := (p.getD (4 * i + 2) 0).toNat_lt
  have h4 := (p.getD (4 * i + 3) 0).toNat_lt
  omega
def first16 (p : List UInt8) (k : Nat) : List Nat := (List.range k).map (word4 p)
def nextW (ws : List Nat) (i : Nat) : Nat := add32 (add32 (add32 (ws.getD (i - 16) 0) (ssig0 (ws.getD (i - 15) 0))) (ws.getD (i - 7) 0)) (ssig1 (ws.getD (i - 2) 0))
def sched (p : List UInt8) : Nat → List Nat
  | 0 => first16 p 16
  | i + 1 => sched p i ++ [nextW (sched p i) (16 + i)]
theorem first16_len (p : List UInt8) (k : Nat) : (first16 p k).length = k := by simp [first16]
theorem first16_succ (p : List UInt8) (k : Nat) : first16 p (k + 1) = first16 p k ++ [word4 p k] := by simp [first16, List.range_succ]
theorem sched_len (p : List UInt8) (i : Nat) : (sched p i).length = 16 + i := by
  induction i with
  | zero => simp [sched, first16_len]
  | succ i ih => simp [sched, ih]; omega
theorem sched_lt (p : List UInt8) (i : Nat) : ∀ x ∈ sched p i, x < 4294967296 := by
  induction i with
  | zero =>
    intro x hx
    obtain ⟨j, _, rfl⟩ := List.mem_map.1 hx
    exact word4_lt p j
  | succ i ih =>
    intro x hx
    rcases List.mem_append.1 hx with h | h
    · exact ih x h
    · rw [List.mem_singleton.1 h]
      exact add32_lt _ _
theorem getD_lt {l : List Nat} (h : ∀ x ∈ l, x < 4294967296) (i : Nat) : l.getD i 0 < 4294967296 := by
  rw [List.getD_eq_getElem?_getD]
  rcases hi : l[i]? with _ | x
  · decide
  · exact h x (List.mem_of_getElem? hi)
def kSha : List Nat := [
  0x428a2f98, 0x71374491, 0xb5c0fbcf, 0xe9b5dba5, 0x3956c25b, 0x59f111f1, 0x923f82a4, 0xab1c5ed5,
  0xd807aa98, 0x12835b01, 0x243185be, 0x550c7dc3, 0x72be5d74, 0x80deb1fe, 0x9bdc06a7, 0xc19bf174,
  0xe49b69c1, 0xefbe4786, 0x0fc19dc6, 0x240ca1cc, 0x2de92c6f, 0x4a7484aa, 0x5cb0a9dc, 0x76f988da,
  0x983e5152, 0xa831c66d, 0xb00327c8, 0xbf597fc7, 0xc6e00bf3, 0xd5a79147, 0x06ca6351, 0x14292967,
  0x27b70a85, 0x2e1b2138, 0x4d2c6dfc, 0x53380d13, 0x650a7354, 0x766a0abb, 0x81c2c92e, 0x92722c85,
  0xa2bfe8a1, 0xa81a664b, 0xc24b8b70, 0xc76c51a3, 0xd192e819, 0xd6990624, 0xf40e3585, 0x106aa070,
  0x19a4c116, 0x1e376c08, 0x2748774c, 0x34b0bcb5, 0x391c0cb3, 0x4ed8aa4a, 0x5b9cca4f, 0x682e6ff3,
  0x748f82ee, 0x78a5636f, 0x84c87814, 0x8cc70208, 0x90befffa, 0xa4506ceb, 0xbef9a3f7, 0xc67178f2]
theorem kSha_lt : ∀ x ∈ kSha, x < 4294967296 := by decide
theorem kSha_len : kSha.length = 64 := by decide
def initSha : V8 := ⟨0x6a09e667, 0xbb67ae85, 0x3c6ef372, 0xa54ff53a, 0x510e527f, 0x9b05688c, 0x1f83d9ab, 0x5be0cd19⟩
theorem initSha_ok : initSha.ok := by unfold V8.ok initSha; decide
def blkSha (v : V8) (p : List UInt8) : V8 := v.add (V8.turn kSha (sched p 48) 64 v)
def mixSha : Nat → V8 → List UInt8 → V8
  | 0, v, _ => v
  | n + 1, v, p => mixSha n (blkSha v (p.take 64)) (p.drop 64)
theorem mixSha_ok {v : V8} (h : v.ok) (n : Nat) (p : List UInt8) : (mixSha n v p).ok := by
  induction n generalizing v p with
  | zero => exact h
  | succ n ih => exact ih (V8.ok_add _ _) _
theorem mixSha_snoc (v : V8) (n : Nat) (p : List UInt8) : mixSha (n + 1) v p = blkSha (mixSha n v p) ((p.drop (64 * n)).take 64) := by
  induction n generalizing v p with
  | zero => rfl
  | succ n ih =>
    rw [mixSha, ih, mixSha, List.drop_drop]
    congr 3
    omega
theorem mixSha_add (v : V8) (a b : Nat) (p : List UInt8) : mixSha (a + b) v p = mixSha b (mixSha a v p) (p.drop (64 * a)) := by
  induction a generalizing v p with
  | zero => simp [mixSha]
  | succ a ih =>
    rw [show a + 1 + b = (a + b) + 1 by omega, mixSha, ih, mixSha, List.drop_drop]
    congr 2
    omega
theorem mixSha_take (v : V8) (n : Nat) (p q : List UInt8) (h : p.length = 64 * n) : mixSha n v (p ++ q) = mixSha n v p := by
  induction n generalizing v p with
  | zero => rfl
  | succ n ih =>
    rw [mixSha, mixSha, List.take_append_of_le_length (by omega), List.drop_append_of_le_length (by omega), ih _ _ (by simp; omega)]
/-- a length in eight bytes, the highest first -/
def be64 (n : Nat) : List UInt8 := (List.range 8).map fun i => UInt8.ofNat (n / 2 ^ (8 * (7 - i)))
def noughtBytes (n : Nat) : List UInt8 := List.replicate n 0
/-- how many noughts stand behind the mark -/
def padN (n : Nat) : Nat := (119 - n % 64) % 64
def padded (p : List UInt8) : List UInt8 := p ++ [128] ++ noughtBytes (padN p.length) ++ be64 (8 * p.length)
theorem padded_len (p : List UInt8) : (padded p).length = 64 * ((p.length + 72) / 64) := by
  simp [padded, noughtBytes, be64, padN]
  omega
def outSha (v : V8) : List UInt8 := (List.range 32).map fun i => UInt8.ofNat (v.l.getD (i / 4) 0 / 2 ^ (24 - 8 * (i % 4)))
def sha (p : List UInt8) : List UInt8 := outSha (mixSha ((p.length + 72) / 64) initSha (padded p))
theorem sha_len (p : List UInt8) : (sha p).length = 32 := by simp [sha, outSha]
theorem u32_wrap (a b : Nat) : ((a : Int) + (b : Int)) % 4294967296 = ((add32 a b : Nat) : Int) := by unfold add32; omega
theorem u32_xor_eq (a b x : Nat) (h : x = a ^^^ b) (ha : a < 4294967296) (hb : b < 4294967296) : bits .xor .u32 (a : Int) (b : Int) = (x : Int) := by rw [h]; exact u32_xor_nat a b ha hb
theorem u32_and_eq (a b x : Nat) (h : x = a &&& b) (ha : a < 4294967296) (hb : b < 4294967296) : bits .and .u32 (a : Int) (b : Int) = (x : Int) := by rw [h]; exact u32_and_nat a b ha hb
theorem u32_wrap_mod (x : Int) : IntKind.u32.wrap x = x % 4294967296 := by simp [IntKind.wrap, IntKind.bits, IntKind.signed]
theorem u32_add_eq (a b x : Nat) (h : x = add32 a b) : IntKind.u32.wrap ((a : Int) + (b : Int)) = (x : Int) := by rw [u32_wrap_mod, h]; exact u32_wrap a b
theorem u32_add_mod (a b x : Nat) (h : x = add32 a b) : ((a : Int) + (b : Int)) % 4294967296 = (x : Int) := by rw [h]; exact u32_wrap a b
theorem rotr_bits (n x : Nat) (hx : x < 4294967296) (h1 : 1 ≤ n) (h31 : n ≤ 31) : x * 2 ^ (32 - n) % 4294967296 ||| x / 2 ^ n = rotr n x ∧ x / 2 ^ n ||| x * 2 ^ (32 - n) % 4294967296 = rotr n x := by
  have h : ∀ n, n < 32 → 1 ≤ n → 2 ^ n * 2 ^ (32 - n) = 4294967296 := by decide
  have hm := h n (by omega) h1
  have hd : x / 2 ^ n < 2 ^ (32 - n) := by
    rw [Nat.div_lt_iff_lt_mul (Nat.pow_pos (by decide)), Nat.mul_comm, hm]
    exact hx
  have hr : x * 2 ^ (32 - n) % 4294967296 = x % 2 ^ n * 2 ^ (32 - n) := by
    rw [← hm, Nat.mul_mod_mul_right]
  have e1 : x % 2 ^ n * 2 ^ (32 - n) ||| x / 2 ^ n = x % 2 ^ n * 2 ^ (32 - n) + x / 2 ^ n := by
    rw [Nat.mul_comm]
    exact (Nat.two_pow_add_eq_or_of_lt hd _).symm
  unfold rotr
  rw [hr]
  refine ⟨by rw [e1, Nat.add_comm], by rw [Nat.or_comm, e1, Nat.add_comm]⟩
end Go.Proofs.YtmnapacibpnodaaGreat
end
section
open Go Go.RowKit
namespace Go.Proofs.YtmnapacibpnodaaGreat
theorem u64_neg_and31 (n : Nat) (h1 : 1 ≤ n) (h31 : n ≤ 31) : bits .and .u64 (IntKind.u64.wrap (-(n : Int))) 31 = ((32 - n : Nat) : Int) := by
  have h : ∀ n : Nat, n < 32 → 1 ≤ n → bits .and .u64 (IntKind.u64.wrap (-(n : Int))) 31 = ((32 - n : Nat) : Int) := by decide
  exact h n (by omega) h1
theorem u32_or_eq (a b x : Nat) (h : a ||| b = x) (ha : a < 4294967296) (hb : b < 4294967296) : bits .or .u32 (a : Int) (b : Int) = (x : Int) := by rw [← h]; exact u32_or_nat a b ha hb
theorem rot_calls (x n : Nat) (w : World) (hx : x < 4294967296) (h1 : 1 ≤ n) (h31 : n ≤ 31) :
    Calls Tryz.prog 178 #[.int .u32 x, .int .i64 (-(n : Int))] w fun e w' => e = .returned (.int .u32 (rotr n x : Nat)) ∧ w' = w := by
  have q1 := u64_neg_and31 n h1 h31
  have hb := (rotr_bits n x hx h1 h31).1
  obtain ⟨s, hs⟩ : ∃ s, s = 32 - n := ⟨_, rfl⟩
  rw [← hs] at q1 hb
  have hs1 : 1 ≤ s := by omega
  have hs2 : s ≤ 31 := by omega
  have hsn : n = 32 - s := by omega
  rw [show x / 2 ^ n = x / 2 ^ (32 - s) by rw [hsn]] at hb
  have q2 : Hid (bits .or .u32 ((x : Int) * 2 ^ s % 4294967296) ((x : Int) / 2 ^ (32 - s)) = (rotr n x : Nat)) := Lib.hid (by
    have h2 := u32_or_eq (x * 2 ^ s % 4294967296) (x / 2 ^ (32 - s)) _ hb (by omega) (by have := Nat.div_le_self x (2 ^ (32 - s)); omega)
    rw [← h2]
    simp)
  clear hb hs hsn
  go_enter Tryz.func178, Tryz.ntmps178
  go_wp2
  go_ret
  rw [q2.out]
  exact ⟨rfl, rfl⟩
theorem right_calls (x n : Nat) (w : World) (hx : x < 4294967296) (h1 : 1 ≤ n) (h31 : n ≤ 31) :
    Calls Tryz.prog 162 #[.int .u32 x, .int .i64 n] w fun e w' => e = .returned (.int .u32 (rotr n x : Nat)) ∧ w' = w := by
  go_enter Tryz.func162, Tryz.ntmps162
  go_wp2_with fail
  refine (rot_calls x n _ hx h1 h31).mono ?_
  rintro e w2 ⟨rfl, rfl⟩
  go_wp2
  go_ret
  exact ⟨rfl, rfl⟩
theorem right_any (x : Nat) (m : Int) (w : World) (h1 : 1 ≤ m) (h31 : m ≤ 31) (hx : x < 4294967296) :
    Calls Tryz.prog 162 #[.int .u32 x, .int .i64 m] w fun e w' => e = .returned (.int .u32 (rotr m.toNat x : Nat)) ∧ w' = w := by
  obtain ⟨n, rfl⟩ := Int.eq_ofNat_of_zero_le (show 0 ≤ m by omega)
  exact right_calls x n w hx (by omega) (by omega)
theorem refR_calls (x n : Nat) (w : World) (hx : x < 4294967296) (h1 : 1 ≤ n) (h31 : n ≤ 31) :
    Calls Tryz.prog 87 #[.int .u32 x, .int .u64 n] w fun e w' => e = .returned (.int .u32 (rotr n x : Nat)) ∧ w' = w := by
  have hb := (rotr_bits n x hx h1 h31).2
  have q2 : Hid (bits .or .u32 ((x : Int) / 2 ^ n) ((x : Int) * 2 ^ (32 - n) % 4294967296) = (rotr n x : Nat)) := Lib.hid (by
    have h2 := u32_or_eq (x / 2 ^ n) (x * 2 ^ (32 - n) % 4294967296) _ hb (by have := Nat.div_le_self x (2 ^ n); omega) (by omega)
    rw [← h2]
    simp)
  clear hb
  go_enter Tryz.func87, Tryz.ntmps87
  go_wp2
  go_ret
  rw [q2.out]
  exact ⟨rfl, rfl⟩
theorem refR_any (x : Nat) (m : Int) (w : World) (h1 : 1 ≤ m) (h31 : m ≤ 31) (hx : x < 4294967296) :
    Calls Tryz.prog 87 #[.int .u32 x, .int .u64 m] w fun e w' => e = .returned (.int .u32 (rotr m.toNat x : Nat)) ∧ w' = w := by
  obtain ⟨n, rfl⟩ := Int.eq_ofNat_of_zero_le (show 0 ≤ m by omega)
  exact refR_calls x n w hx (by omega) (by omega)
end Go.Proofs.YtmnapacibpnodaaGreat
end
section
open Go Go.RowKit
namespace Go.Proofs.YtmnapacibpnodaaGreat
theorem u32_not' (a : Nat) (ha : a < 4294967296) : bits .xor .u32 IntKind.u32.max (a : Int) = ((4294967295 - a : Nat) : Int) := by
  rw [show IntKind.u32.max = ((4294967295 : Nat) : Int) from rfl, u32_xor_nat _ a (by decide) ha]
  congr 1
  have h1 : (BitVec.ofNat 32 a).toNat = a := by simp [Nat.mod_eq_of_lt ha]
  have h2 : (BitVec.allOnes 32 ^^^ BitVec.ofNat 32 a).toNat = 4294967295 - a := by
    rw [BitVec.allOnes_xor, BitVec.toNat_not, h1]
  rw [BitVec.toNat_xor, h1] at h2
  exact h2
theorem index8 (u : V8) (k : Nat) (hk : k < 8) (w : World) : (Instr.index 116 (.agg #[.int .u32 (u.a : Int), .int .u32 (u.b : Int), .int .u32 (u.c : Int), .int .u32 (u.d : Int), .int .u32 (u.e : Int), .int .u32 (u.f : Int), .int .u32 (u.g : Int), .int .u32 (u.h : Int)]) (.int .i64 (k : Int))).run Tryz.prog w = .ok (.int .u32 (u.l.getD k 0 : Nat)) w := by
  rcases (show k = 0 ∨ k = 1 ∨ k = 2 ∨ k = 3 ∨ k = 4 ∨ k = 5 ∨ k = 6 ∨ k = 7 by omega) with rfl | rfl | rfl | rfl | rfl | rfl | rfl | rfl <;> kernel_rfl
def addPart (v u : V8) (k : Nat) : List Nat := (List.range 8).map fun i => if i < k then add32 (v.l.getD i 0) (u.l.getD i 0) else v.l.getD i 0
theorem addPart_len (v u : V8) (k : Nat) : (addPart v u k).length = 8 := by simp [addPart]
theorem addPart_end (v u : V8) : addPart v u 8 = (v.add u).l := rfl
theorem addPart_get (v u : V8) (k : Nat) (h : k < 8) : (addPart v u k).getD k 0 = v.l.getD k 0 := by
  simp [addPart, List.getD_eq_getElem?_getD, h]
theorem addPart_set (v u : V8) (k : Nat) : (addPart v u k).set k (add32 (v.l.getD k 0) (u.l.getD k 0)) = addPart v u (k + 1) := by
  apply List.ext_getElem
  · simp [addPart]
  · intro i h1 h2
    rw [List.getElem_set]
    simp only [addPart, List.getElem_map, List.getElem_range]
    by_cases h : k = i
    · subst h
      rw [if_pos rfl, if_pos (by omega)]
    · rw [if_neg h]
      by_cases h3 : i < k
      · rw [if_pos h3, if_pos (by omega)]
      · rw [if_neg h3, if_neg (by omega)]
set_option maxRecDepth 100000 in
set_option maxHeartbeats 1600000 in
theorem turn_calls (g gw gk : Nat) (v : V8) (ws ks : List Nat) (w : World) (hv : v.ok) (hb : Blk w g 173 (u32s v.l)) (hw : Blk w gw 117 (u32s ws)) (hk : Blk w gk 117 (u32s ks))
    (hwl : ws.length = 64) (hkl : ks.length = 64) (hw32 : ∀ x ∈ ws, x < 4294967296) (hk32 : ∀ x ∈ ks, x < 4294967296) :
    Calls Tryz.prog 140 #[.pointer (some ⟨g, 0, none⟩), .pointer (some ⟨gw, 0, none⟩), .pointer (some ⟨gk, 0, none⟩)] w fun e w' => e = .returned (.tuple #[]) ∧
      Hid (Blk w' g 173 (u32s (v.add (V8.turn ks ws 64 v)).l)) ∧ Hid (Chg (fun k => k = g) w w') := by
  have HB := Lib.hid hb
  have HW := Lib.hid hw
  have HK := Lib.hid hk
  have HWL := Lib.hid hwl
  have HKL := Lib.hid hkl
  have HW32 := Lib.hid hw32
  have HK32 := Lib.hid hk32
  have HV := Lib.hid hv
  have c0 : w.cell? ⟨g, 0, none⟩ = some (.int .u32 (v.a : Int)) := HB.out.cell 0
  have c1 : w.cell? ⟨g, 1, none⟩ = some (.int .u32 (v.b : Int)) := HB.out.cell 1
  have c2 : w.cell? ⟨g, 2, none⟩ = some (.int .u32 (v.c : Int)) := HB.out.cell 2
  have c3 : w.cell? ⟨g, 3, none⟩ = some (.int .u32 (v.d : Int)) := HB.out.cell 3
  have c4 : w.cell? ⟨g, 4, none⟩ = some (.int .u32 (v.e : Int)) := HB.out.cell 4
  have c5 : w.cell? ⟨g, 5, none⟩ = some (.int .u32 (v.f : Int)) := HB.out.cell 5
  have c6 : w.cell? ⟨g, 6, none⟩ = some (.int .u32 (v.g : Int)) := HB.out.cell 6
  have c7 : w.cell? ⟨g, 7, none⟩ = some (.int .u32 (v.h : Int)) := HB.out.cell 7
  clear hb hw hk hwl hkl hw32 hk32 hv
  go_enter Tryz.func140, Tryz.ntmps140
  go_wp2_with fail
  go_quiet (fail)
  go_wp2_with fail
  clear c0 c1 c2 c3 c4 c5 c6 c7
  go_loopw [6, 7, 8, 9, 10, 11, 12, 13, 51] (fun a b c d e f g h t wr => ∃ (k : Nat) (u : V8), k ≤ 64 ∧ t = .int .i64 k ∧ a = .int .u32 (u.a : Int) ∧ b = .int .u32 (u.b : Int) ∧ c = .int .u32 (u.c : Int) ∧ d = .int .u32 (u.d : Int) ∧
      e = .int .u32 (u.e : Int) ∧ f = .int .u32 (u.f : Int) ∧ g = .int .u32 (u.g : Int) ∧ h = .int .u32 (u.h : Int) ∧ u = V8.turn ks ws k v ∧ Chg nowhere w wr) (fun _ _ _ _ _ _ _ _ t _ => 64 - (intOf t).toNat)
  case atStart => exact ⟨0, v, Nat.zero_le _, rfl, rfl, rfl, rfl, rfl, rfl, rfl, rfl, rfl, rfl, (Chg.refl _ _).drewN nq⟩
  case round =>
    obtain ⟨k, u, hk, rfl, rfl, rfl, rfl, rfl, rfl, rfl, rfl, rfl, hu, hch⟩ := hrel
    have HCH := Lib.hid hch
    clear hch
    have hok : u.ok := by rw [hu]; exact V8.ok_turn HV.out _ _ _
    have HU := Lib.hid hu
    clear hu
    by_cases hlt : k < 64
    · have e1 : (k : Int) < 64 := by omega
      have cw : wr.cell? ⟨gw, k, none⟩ = some (.int .u32 (ws.getD k 0 : Nat)) := by
        rw [(HW.out.chg HCH.out (fun h => h)).cell]
        exact u32s_get _ _ (by have := HWL.out; omega)
      have ck : wr.cell? ⟨gk, k, none⟩ = some (.int .u32 (ks.getD k 0 : Nat)) := by
        rw [(HK.out.chg HCH.out (fun h => h)).cell]
        exact u32s_get _ _ (by have := HKL.out; omega)
      have hround : V8.turn ks ws (k + 1) v = u.round (ks.getD k 0) (ws.getD k 0) := by rw [HU.out]; rfl
      have lw := getD_lt HW32.out k
      have lk := getD_lt HK32.out k
      generalize ws.getD k 0 = wk at *
      generalize ks.getD k 0 = kk at *
      have HRD := Lib.hid hround
      clear hround
      rcases u with ⟨a, b, c, d, e, f, g', h⟩
      obtain ⟨la, lb, lc, ld, le, lf, lg, lh⟩ := hok
      dsimp only at la lb lc ld le lf lg lh ⊢
      obtain ⟨xa, hxa⟩ : ∃ z, z = rotr 6 e ^^^ rotr 11 e := ⟨_, rfl⟩
      obtain ⟨xb, hxb⟩ : ∃ z, z = bsig1 e := ⟨_, rfl⟩
      have a1 := @rotr_lt 6 e le (by decide) (by decide)
      have a2 := @rotr_lt 11 e le (by decide) (by decide)
      have a3 := @rotr_lt 25 e le (by decide) (by decide)
      have a4 : xa < 4294967296 := by rw [hxa]; exact xor_lt a1 a2
      have q1 := u32_xor_eq _ _ xa hxa a1 a2
      have q2 := u32_xor_eq xa _ xb (by rw [hxb, hxa]; rfl) a4 a3
      have q1' : bits .xor .u32 ((rotr (Int.toNat 6) e : Nat) : Int) ((rotr (Int.toNat 11) e : Nat) : Int) = xa := q1
      have q2' : bits .xor .u32 (xa : Int) ((rotr (Int.toNat 25) e : Nat) : Int) = xb := q2
      obtain ⟨ya, hya⟩ : ∃ z, z = e &&& f := ⟨_, rfl⟩
      obtain ⟨ne, hne⟩ : ∃ z, z = 4294967295 - e := ⟨_, rfl⟩
      obtain ⟨yb, hyb⟩ : ∃ z, z = ne &&& g' := ⟨_, rfl⟩
      obtain ⟨yc, hyc⟩ : ∃ z, z = ch32 e f g' := ⟨_, rfl⟩
      have a5 : ya < 4294967296 := by rw [hya]; exact and_lt _ le
      have a6 : ne < 4294967296 := by omega
      have a7 : yb < 4294967296 := by rw [hyb]; exact and_lt _ a6
      have q3 := u32_and_eq e f ya hya le lf
      have q4 := u32_not' e le
      rw [← hne] at q4
      have q5 := u32_and_eq ne g' yb hyb a6 lg
      have q6 := u32_xor_eq ya yb yc (by rw [hyc, hya, hyb, hne]; rfl) a5 a7
      obtain ⟨t1, ht1⟩ : ∃ z, z = add32 h xb := ⟨_, rfl⟩
      obtain ⟨t2, ht2⟩ : ∃ z, z = add32 t1 yc := ⟨_, rfl⟩
      obtain ⟨t3, ht3⟩ : ∃ z, z = add32 t2 kk := ⟨_, rfl⟩
      obtain ⟨t4, ht4⟩ : ∃ z, z = add32 t3 wk := ⟨_, rfl⟩
      have p1 := u32_add_eq h xb t1 ht1
      have p2 := u32_add_eq t1 yc t2 ht2
      have p3 := u32_add_eq t2 kk t3 ht3
      have p4 := u32_add_eq t3 wk t4 ht4
      have p5 : ((t1 : Int) + (yc : Int) + (kk : Int) + (wk : Int)) % 4294967296 = (t4 : Int) := by rw [ht4, ht3, ht2]; unfold add32; omega
      have HT1 : Hid (t4 = V8.t1 ⟨a, b, c, d, e, f, g', h⟩ kk wk) := Lib.hid (by rw [ht4, ht3, ht2, ht1, hxb, hyc]; rfl)
      have lt4 : t4 < 4294967296 := by rw [ht4]; exact add32_lt _ _
      clear hxa hxb hya hne hyb hyc ht1 ht2 ht3 ht4
      go_wp2_with fail
      go_quiet ((go_at_call 162; exact Calls.quiet_of_same (right_any _ _ _ (by decide) (by decide) le)))
      clear p1 p2 p3 p4 q1 q2 q1' q2' a1 a2 a3
      obtain ⟨xc, hxc⟩ : ∃ z, z = rotr 2 a ^^^ rotr 13 a := ⟨_, rfl⟩
      obtain ⟨xd, hxd⟩ : ∃ z, z = bsig0 a := ⟨_, rfl⟩
      have a1 := @rotr_lt 2 a la (by decide) (by decide)
      have a2 := @rotr_lt 13 a la (by decide) (by decide)
      have a3 := @rotr_lt 22 a la (by decide) (by decide)
      have a8 : xc < 4294967296 := by rw [hxc]; exact xor_lt a1 a2
      have r1 := u32_xor_eq _ _ xc hxc a1 a2
      have r2 := u32_xor_eq xc _ xd (by rw [hxd, hxc]; rfl) a8 a3
      obtain ⟨za, hza⟩ : ∃ z, z = a &&& b := ⟨_, rfl⟩
      obtain ⟨zb, hzb⟩ : ∃ z, z = a &&& c := ⟨_, rfl⟩
      obtain ⟨zc, hzc⟩ : ∃ z, z = b &&& c := ⟨_, rfl⟩
      obtain ⟨zd, hzd⟩ : ∃ z, z = za ^^^ zb := ⟨_, rfl⟩
      obtain ⟨ze, hze⟩ : ∃ z, z = maj32 a b c := ⟨_, rfl⟩
      have b1 : za < 4294967296 := by rw [hza]; exact and_lt _ la
      have b2 : zb < 4294967296 := by rw [hzb]; exact and_lt _ la
      have b3 : zc < 4294967296 := by rw [hzc]; exact and_lt _ lb
      have b4 : zd < 4294967296 := by rw [hzd]; exact xor_lt b1 b2
      have r3 := u32_and_eq a b za hza la lb
      have r4 := u32_and_eq a c zb hzb la lc
      have r5 := u32_and_eq b c zc hzc lb lc
      have r6 := u32_xor_eq za zb zd hzd b1 b2
      have r7 := u32_xor_eq zd zc ze (by rw [hze, hzd, hza, hzb, hzc]; rfl) b4 b3
      obtain ⟨u2, hu2⟩ : ∃ z, z = add32 xd ze := ⟨_, rfl⟩
      obtain ⟨na, hna⟩ : ∃ z, z = add32 t4 u2 := ⟨_, rfl⟩
      obtain ⟨nd, hnd⟩ : ∃ z, z = add32 d t4 := ⟨_, rfl⟩
      have m1 := u32_add_mod xd ze u2 hu2
      have m2 := u32_add_mod t4 u2 na hna
      have m3 := u32_add_mod d t4 nd hnd
      have HR : Hid (V8.turn ks ws (k + 1) v = ⟨na, a, b, c, nd, e, f, g'⟩) := Lib.hid (by
        rw [HRD.out, hna, hnd, hu2, hxd, hze, HT1.out]
        rfl)
      clear hxc hxd hza hzb hzc hzd hze hu2 hna hnd
      go_wp2_with fail
      refine (right_calls a 2 _ la (by decide) (by decide)).mono ?_
      rintro e2 w2 ⟨rfl, rfl⟩
      go_wp2_with fail
      refine (right_calls a 13 _ la (by decide) (by decide)).mono ?_
      rintro e2 w2 ⟨rfl, rfl⟩
      go_wp2_with fail
      refine (right_calls a 22 _ la (by decide) (by decide)).mono ?_
      rintro e2 w2 ⟨rfl, rfl⟩
      go_wp2_with fail
      exact ⟨⟨k + 1, ⟨na, a, b, c, nd, e, f, g'⟩, by omega, by go_num, by first | rfl | rw [m2], rfl, rfl, rfl, by first | rfl | rw [m3], rfl, rfl, rfl, HR.out.symm, HCH.out.drewN nq⟩, by simp [intOf]; omega⟩
    · have e1 : (64 : Int) ≤ k := by omega
      obtain rfl : k = 64 := by omega
      have HBW := Lib.hid (HB.out.chg HCH.out (fun h => h))
      have hix := fun k hk w => index8 u k hk w
      have hfin := Lib.hid (addPart_end v u)
      have hcw : Hid (Chg (fun k => k = g) w wr) := Lib.hid (HCH.out.mono (fun _ _ h => h.elim))
      go_wp2_with fail
      go_loopw [17, 18, 127] (fun _ _ t wz => ∃ k : Nat, k ≤ 8 ∧ t = .int .i64 k ∧ Blk wz g 173 (u32s (addPart v u k)) ∧ Chg (fun k => k = g) w wz) (fun _ _ t _ => 8 - (intOf t).toNat)
      case atStart => exact ⟨0, Nat.zero_le _, rfl, HBW.out, hcw.out⟩
      case round =>
        obtain ⟨k, hk, rfl, h1, h2⟩ := hrel
        have H1 := Lib.hid h1
        have H2 := Lib.hid h2
        clear h1 h2
        by_cases hlt : k < 8
        · have e1 : (k : Int) < 8 := by omega
          have i0 := hix k hlt
          have hc : wr.cell? ⟨g, k, none⟩ = some (.int .u32 (v.l.getD k 0 : Nat)) := by
            rw [H1.out.cell, u32s_get _ _ (by rw [addPart_len]; omega), addPart_get _ _ _ hlt]
          have hf : wr.frozen? ⟨g, k, none⟩ = false := H1.out.frozen k
          obtain ⟨z, hz⟩ : ∃ z, z = add32 (v.l.getD k 0) (u.l.getD k 0) := ⟨_, rfl⟩
          have HN := Lib.hid (H1.out.set_ k (.int .u32 (z : Int)))
          rw [u32s_set, hz, addPart_set, ← hz] at HN
          have HC := Lib.hid (H2.out.setCell (p := ⟨g, k, none⟩) (fun _ => rfl) (.int .u32 (z : Int)))
          generalize v.l.getD k 0 = x at *
          generalize u.l.getD k 0 = y at *
          have p1 := u32_add_eq x y z hz
          clear hz hix
          go_wp2_with fail
          go_still_tail 9, (by kernel_rfl)
          change wpList _ _ _ _ _ (World.drew _)
          go_wp2_with fail
          refine ⟨?_, by simp [intOf]; omega⟩
          (repeat apply Exists.intro); exact ⟨⟨k + 1, by omega, by go_num, HN.out, HC.out.drew⟩, rfl⟩
        · have e1 : (8 : Int) ≤ k := by omega
          obtain rfl : k = 8 := by omega
          rw [hfin.out] at H1
          go_wp2_with fail
          go_end0
          exact ⟨rfl, by rw [← HU.out]; exact H1, H2⟩
end Go.Proofs.YtmnapacibpnodaaGreat
end
section
open Go Go.RowKit
namespace Go.Proofs.YtmnapacibpnodaaGreat
def pad64 (l : List Nat) : List Nat := l ++ List.replicate (64 - l.length) 0
theorem pad64_len (l : List Nat) (h : l.length ≤ 64) : (pad64 l).length = 64 := by simp [pad64]; omega
theorem pad64_set (l : List Nat) (x : Nat) (h : l.length < 64) : (pad64 l).set l.length x = pad64 (l ++ [x]) := by
  unfold pad64
  rw [List.set_append_right _ _ (Nat.le_refl _), Nat.sub_self, show 64 - l.length = (64 - (l ++ [x]).length) + 1 by simp; omega, List.replicate_succ, sC]
  simp
theorem pad64_get (l : List Nat) (i : Nat) (h : i < l.length) : (pad64 l).getD i 0 = l.getD i 0 := by
  simp [pad64, List.getD_eq_getElem?_getD, List.getElem?_append_left h]
theorem pad64_full (l : List Nat) (h : l.length = 64) : pad64 l = l := by simp [pad64, h]
theorem bytes_word (a b c d : Nat) (_ha : a < 256) (hb : b < 256) (hc : c < 256) (hd : d < 256) :
    ((a * 16777216 ||| b * 65536) ||| c * 256) ||| d = a * 16777216 + b * 65536 + c * 256 + d := by
  have h1 : a * 16777216 ||| b * 65536 = a * 16777216 + b * 65536 := by
    have := Nat.two_pow_add_eq_or_of_lt (i := 24) (b := b * 65536) (by omega) a
    rw [show 2 ^ 24 * a = a * 16777216 by omega] at this
    exact this.symm
  have h2 : (a * 16777216 + b * 65536) ||| c * 256 = a * 16777216 + b * 65536 + c * 256 := by
    have := Nat.two_pow_add_eq_or_of_lt (i := 16) (b := c * 256) (by omega) (a * 256 + b)
    rw [show 2 ^ 16 * (a * 256 + b) = a * 16777216 + b * 65536 by omega] at this
    exact this.symm
  have h3 : (a * 16777216 + b * 65536 + c * 256) ||| d = a * 16777216 + b * 65536 + c * 256 + d := by
    have := Nat.two_pow_add_eq_or_of_lt (i := 8) (b := d) (by omega) (a * 65536 + b * 256 + c)
    rw [show 2 ^ 8 * (a * 65536 + b * 256 + c) = a * 16777216 + b * 65536 + c * 256 by omega] at this
    exact this.symm
  rw [h1, h2, h3]
set_option maxRecDepth 100000 in
set_option maxHeartbeats 800000 in
theorem words_calls (A : Option Addr) (c : Nat) (p : List UInt8) (ws : List Nat) (w : World) (hr : Rd w A (bs p)) (hp : p.length = 64) (hws : Hid (ws = sched p 48)) :
    Calls Tryz.prog 139 #[.slice A 64 c] w fun e w' => e = .returned (.agg (u32s ws)) ∧ Hid (Chg nowhere w w') := by
  have HR := Lib.hid hr
  have HP := Lib.hid hp
  clear hr hp
  go_enter Tryz.func139, Tryz.ntmps139
  go_wp2_with fail
  go_loopw [4, 10] (fun _ t wr => ∃ k : Nat, k ≤ 16 ∧ t = .int .i64 k ∧ Blk wr (w.heap.size + 1) 117 (u32s (pad64 (first16 p k))) ∧ Blk wr w.heap.size 117 (u32s (pad64 [])) ∧ Chg nowhere w wr) (fun _ t _ => 16 - (intOf t).toNat)
  case atStart =>
    refine ⟨0, Nat.zero_le _, rfl, ?_, ?_, ((Chg.refl _ _).alloc _).alloc _⟩
    · exact Blk.new1 w _ _ _
    · exact (Blk.new w _ _).alloc _
  case round =>
    obtain ⟨k, hk, rfl, h1, h2, h3⟩ := hrel
    have H1 := Lib.hid h1
    have H2 := Lib.hid h2
    have H3 := Lib.hid h3
    clear h1 h2 h3
    by_cases hlt : k < 16
    · have e1 : (k : Int) < 16 := by omega
      have hcell : ∀ j, j < 64 → ∃ ad, A = some ad ∧ wr.cell? (ad.add j) = some (.int .u8 ((p.getD j 0).toNat : Int)) := fun j hj => by
        obtain ⟨ad, b, h1, h2, h3⟩ := (HR.out.later H3.out).byte (k := j) (by have := HP.out; omega)
        refine ⟨ad, h1, ?_⟩
        rw [h3, List.getD_eq_getElem?_getD, h2]
        rfl
      obtain ⟨ad, rfl, c0⟩ := hcell (4 * k) (by omega)
      obtain ⟨_, e, c1⟩ := hcell (4 * k + 1) (by omega)
      injection e with e
      subst e
      obtain ⟨_, e, c2⟩ := hcell (4 * k + 2) (by omega)
      injection e with e
      subst e
      obtain ⟨_, e, c3⟩ := hcell (4 * k + 3) (by omega)
      injection e with e
      subst e
      have b0 := (p.getD (4 * k) 0).toNat_lt
      have b1 := (p.getD (4 * k + 1) 0).toNat_lt
      have b2 := (p.getD (4 * k + 2) 0).toNat_lt
      have b3 := (p.getD (4 * k + 3) 0).toNat_lt
      have hw4 : word4 p k = (p.getD (4 * k) 0).toNat * 16777216 + (p.getD (4 * k + 1) 0).toNat * 65536 + (p.getD (4 * k + 2) 0).toNat * 256 + (p.getD (4 * k + 3) 0).toNat := rfl
      generalize (p.getD (4 * k) 0).toNat = x0 at *
      generalize (p.getD (4 * k + 1) 0).toNat = x1 at *
      generalize (p.getD (4 * k + 2) 0).toNat = x2 at *
      generalize (p.getD (4 * k + 3) 0).toNat = x3 at *
      have HW := Lib.hid hw4
      have hlen : (first16 p k).length = k := first16_len p k
      have hcz : wr.cell? ⟨w.heap.size + 1, k, none⟩ = some (.int .u32 ((pad64 (first16 p k)).getD k 0 : Nat)) := by
        rw [H1.out.cell]
        exact u32s_get _ _ (by rw [pad64_len _ (by omega)]; omega)
      have hfz : wr.frozen? ⟨w.heap.size + 1, k, none⟩ = false := H1.out.frozen k
      obtain ⟨j0, hj0⟩ : ∃ j, j = 4 * k := ⟨_, rfl⟩
      obtain ⟨j1, hj1⟩ : ∃ j, j = 4 * k + 1 := ⟨_, rfl⟩
      obtain ⟨j2, hj2⟩ : ∃ j, j = 4 * k + 2 := ⟨_, rfl⟩
      obtain ⟨j3, hj3⟩ : ∃ j, j = 4 * k + 3 := ⟨_, rfl⟩
      rw [← hj0] at c0
      rw [← hj1] at c1
      rw [← hj2] at c2
      rw [← hj3] at c3
      have r0 : IntKind.i64.wrap (4 * (k : Int)) = (j0 : Int) := by rw [IntWalk.i64_in _ (by omega)]; omega
      have r1 : IntKind.i64.wrap ((j0 : Int) + 1) = (j1 : Int) := by rw [IntWalk.i64_in _ (by omega)]; omega
      have r2 : IntKind.i64.wrap ((j0 : Int) + 2) = (j2 : Int) := by rw [IntWalk.i64_in _ (by omega)]; omega
      have r3 : IntKind.i64.wrap ((j0 : Int) + 3) = (j3 : Int) := by rw [IntWalk.i64_in _ (by omega)]; omega
      have hor := bytes_word x0 x1 x2 x3 (by omega) (by omega) (by omega) (by omega)
      rw [← hw4] at hor
      have hwl := word4_lt p k
      obtain ⟨z3, hz3⟩ : ∃ z, z = word4 p k := ⟨_, rfl⟩
      rw [← hz3] at hor hwl
      obtain ⟨y0, hy0⟩ : ∃ y, y = x0 * 16777216 := ⟨_, rfl⟩
      obtain ⟨y1, hy1⟩ : ∃ y, y = x1 * 65536 := ⟨_, rfl⟩
      obtain ⟨y2, hy2⟩ : ∃ y, y = x2 * 256 := ⟨_, rfl⟩
      have v0 : IntKind.u32.wrap (x0 : Int) = (x0 : Int) := by rw [u32_wrap_mod]; omega
      have v1 : IntKind.u32.wrap (x1 : Int) = (x1 : Int) := by rw [u32_wrap_mod]; omega
      have v2 : IntKind.u32.wrap (x2 : Int) = (x2 : Int) := by rw [u32_wrap_mod]; omega
      have v3 : IntKind.u32.wrap (x3 : Int) = (x3 : Int) := by rw [u32_wrap_mod]; omega
      have u0 : IntKind.u32.wrap ((x0 : Int) * 16777216) = (y0 : Int) := by rw [u32_wrap_mod]; omega
      have u1 : IntKind.u32.wrap ((x1 : Int) * 65536) = (y1 : Int) := by rw [u32_wrap_mod]; omega
      have u2 : IntKind.u32.wrap ((x2 : Int) * 256) = (y2 : Int) := by rw [u32_wrap_mod]; omega
      rw [← hy0, ← hy1, ← hy2] at hor
      obtain ⟨z1, hz1⟩ : ∃ z, z = y0 ||| y1 := ⟨_, rfl⟩
      obtain ⟨z2, hz2⟩ : ∃ z, z = z1 ||| y2 := ⟨_, rfl⟩
      have l1 : z1 < 2 ^ 32 := by rw [hz1]; exact Nat.or_lt_two_pow (by omega) (by omega)
      have l2 : z2 < 2 ^ 32 := by rw [hz2]; exact Nat.or_lt_two_pow (by omega) (by omega)
      have t1 := u32_or_eq y0 y1 z1 hz1.symm (by omega) (by omega)
      have t2 := u32_or_eq z1 y2 z2 hz2.symm (by omega) (by omega)
      have t3 := u32_or_eq z2 x3 z3 (by rw [hz2, hz1]; exact hor) (by omega) (by omega)
      have HZ := Lib.hid hz3
      have HN := Lib.hid (H1.out.set_ k (.int .u32 (z3 : Int)))
      have HN2 := Lib.hid (H2.out.far (p := ⟨w.heap.size + 1, k, none⟩) (by show w.heap.size ≠ w.heap.size + 1; omega) (.int .u32 (z3 : Int)))
      have HC := Lib.hid (H3.out.setCell (p := ⟨w.heap.size + 1, k, none⟩) (fun h => by have h' : w.heap.size + 1 < w.heap.size := h; omega) (.int .u32 (z3 : Int)))
      rw [u32s_set] at HN
      have hps : (pad64 (first16 p k)).set k z3 = pad64 (first16 p (k + 1)) := by
        rw [first16_succ, ← hz3]
        have := pad64_set (first16 p k) z3 (by omega)
        rwa [hlen] at this
      rw [hps] at HN
      have g0 : (j0 : Int) < 64 := by omega
      have g4 : (k : Int) < 64 := by omega
      have g1 : (j1 : Int) < 64 := by omega
      have g2 : (j2 : Int) < 64 := by omega
      have g3 : (j3 : Int) < 64 := by omega
      clear hw4 hlen hcell hj0 hj1 hj2 hj3 hor hz3 hy0 hy1 hy2 hz1 hz2 hps
      go_wp2_with fail
      go_still_tail 35, (by kernel_rfl)
      change wpList _ _ _ _ _ wr.drew
      go_wp2_with fail
      exact ⟨⟨k + 1, by omega, by go_num, HN.out, HN2.out, HC.out.drew⟩, by simp [intOf]; omega⟩
    · have e1 : (16 : Int) ≤ k := by omega
      obtain rfl : k = 16 := by omega
      have H1' : Hid (Blk wr (w.heap.size + 1) 117 (u32s (pad64 (sched p 0)))) := H1
      clear H1 hk hlt
      go_wp2_with fail
      go_loopw [5, 6, 7, 8, 9] (fun t _ _ _ _ wr => ∃ k : Nat, k ≤ 48 ∧ t = .int .i64 ((16 + k : Nat) : Int) ∧ Blk wr (w.heap.size + 1) 117 (u32s (pad64 (sched p k))) ∧ Blk wr w.heap.size 117 (u32s (pad64 [])) ∧ Chg nowhere w wr) (fun t _ _ _ _ _ => 64 - (intOf t).toNat)
      case atStart => exact ⟨0, Nat.zero_le _, rfl, H1'.out, H2.out, H3.out⟩
      case round =>
        obtain ⟨k, hk, rfl, h1, h2, h3⟩ := hrel
        have H1 := Lib.hid h1
        have H2 := Lib.hid h2
        have H3 := Lib.hid h3
        clear h1 h2 h3
        have hlen : (sched p k).length = 16 + k := sched_len p k
        obtain ⟨n, hn⟩ : ∃ n, n = 16 + k := ⟨_, rfl⟩
        rw [← hn]
        have hn16 : 16 ≤ n := by omega
        by_cases hlt : n < 64
        · have e1 : (n : Int) < 64 := by omega
          have hcell : ∀ j, j < n → wr.cell? ⟨w.heap.size + 1, j, none⟩ = some (.int .u32 ((sched p k).getD j 0 : Nat)) := fun j hj => by
            rw [H1.out.cell, u32s_get _ _ (by rw [pad64_len _ (by omega)]; omega), pad64_get _ _ (by omega)]
          have hlt32 : ∀ j, (sched p k).getD j 0 < 4294967296 := fun j => getD_lt (sched_lt p k) j
          have hnw : nextW (sched p k) n = add32 (add32 (add32 ((sched p k).getD (n - 16) 0) (ssig0 ((sched p k).getD (n - 15) 0))) ((sched p k).getD (n - 7) 0)) (ssig1 ((sched p k).getD (n - 2) 0)) := rfl
          have hsc : sched p (k + 1) = sched p k ++ [nextW (sched p k) n] := by rw [hn]; rfl
          obtain ⟨i16, hi16⟩ : ∃ i, i = n - 16 := ⟨_, rfl⟩
          obtain ⟨i15, hi15⟩ : ∃ i, i = n - 15 := ⟨_, rfl⟩
          obtain ⟨i7, hi7⟩ : ∃ i, i = n - 7 := ⟨_, rfl⟩
          obtain ⟨i2, hi2⟩ : ∃ i, i = n - 2 := ⟨_, rfl⟩
          rw [← hi16, ← hi15, ← hi7, ← hi2] at hnw
          have c16 := hcell i16 (by omega)
          have c15 := hcell i15 (by omega)
          have c7 := hcell i7 (by omega)
          have c2 := hcell i2 (by omega)
          have l16 := hlt32 i16
          have l15 := hlt32 i15
          have l7 := hlt32 i7
          have l2 := hlt32 i2
          generalize (sched p k).getD i16 0 = x16 at *
          generalize (sched p k).getD i15 0 = x15 at *
          generalize (sched p k).getD i7 0 = x7 at *
          generalize (sched p k).getD i2 0 = x2 at *
          have r16 : IntKind.i64.wrap ((n : Int) - 16) = (i16 : Int) := by rw [IntWalk.i64_in _ (by omega)]; omega
          have r15 : IntKind.i64.wrap ((n : Int) - 15) = (i15 : Int) := by rw [IntWalk.i64_in _ (by omega)]; omega
          have r7 : IntKind.i64.wrap ((n : Int) - 7) = (i7 : Int) := by rw [IntWalk.i64_in _ (by omega)]; omega
          have r2 : IntKind.i64.wrap ((n : Int) - 2) = (i2 : Int) := by rw [IntWalk.i64_in _ (by omega)]; omega
          have g16 : (i16 : Int) < 64 := by omega
          have g15 : (i15 : Int) < 64 := by omega
          have g7 : (i7 : Int) < 64 := by omega
          have g2 : (i2 : Int) < 64 := by omega
          have hcz : wr.cell? ⟨w.heap.size + 1, n, none⟩ = some (.int .u32 ((pad64 (sched p k)).getD n 0 : Nat)) := by
            rw [H1.out.cell]
            exact u32s_get _ _ (by rw [pad64_len _ (by omega)]; omega)
          have hfz : wr.frozen? ⟨w.heap.size + 1, n, none⟩ = false := H1.out.frozen n
          have HNW := Lib.hid hnw
          have HSC := Lib.hid hsc
          have HNN := Lib.hid hn
          clear hnw hsc hn hcell hlt32 hi16 hi15 hi7 hi2 hlen
          go_wp2_with fail
          go_quiet (fail)
          obtain ⟨xa, hxa⟩ : ∃ z, z = rotr 7 x15 ^^^ rotr 18 x15 := ⟨_, rfl⟩
          obtain ⟨xb, hxb⟩ : ∃ z, z = rotr 17 x2 ^^^ rotr 19 x2 := ⟨_, rfl⟩
          obtain ⟨s0, hs0⟩ : ∃ z, z = ssig0 x15 := ⟨_, rfl⟩
          obtain ⟨s1, hs1⟩ : ∃ z, z = ssig1 x2 := ⟨_, rfl⟩
          have a1 := @rotr_lt 7 x15 l15 (by decide) (by decide)
          have a2 := @rotr_lt 18 x15 l15 (by decide) (by decide)
          have a3 := @rotr_lt 17 x2 l2 (by decide) (by decide)
          have a4 := @rotr_lt 19 x2 l2 (by decide) (by decide)
          have a5 : xa < 4294967296 := by rw [hxa]; exact xor_lt a1 a2
          have a6 : xb < 4294967296 := by rw [hxb]; exact xor_lt a3 a4
          have q1 := u32_xor_eq _ _ xa hxa a1 a2
          have q2 := u32_xor_eq xa (x15 / 8) s0 (by rw [hs0, hxa]; rfl) a5 (by omega)
          have q3 := u32_xor_eq _ _ xb hxb a3 a4
          have q4 := u32_xor_eq xb (x2 / 1024) s1 (by rw [hs1, hxb]; rfl) a6 (by omega)
          rw [show ((x15 / 8 : Nat) : Int) = (x15 : Int) / 8 from rfl] at q2
          rw [show ((x2 / 1024 : Nat) : Int) = (x2 : Int) / 1024 from rfl] at q4
          obtain ⟨t1, ht1⟩ : ∃ z, z = add32 x16 s0 := ⟨_, rfl⟩
          obtain ⟨t2, ht2⟩ : ∃ z, z = add32 t1 x7 := ⟨_, rfl⟩
          obtain ⟨t3, ht3⟩ : ∃ z, z = add32 t2 s1 := ⟨_, rfl⟩
          have p1 := u32_add_eq x16 s0 t1 ht1
          have p2 := u32_add_eq t1 x7 t2 ht2
          have p3 := u32_add_eq t2 s1 t3 ht3
          have HT : Hid (t3 = nextW (sched p k) n) := Lib.hid (by rw [HNW.out, ht3, ht2, ht1, hs0, hs1])
          clear hxa hxb hs0 hs1 ht1 ht2 ht3
          go_wp2_with fail
          replace H1 : Hid (Blk (wr.drewN nq) (w.heap.size + 1) 117 (u32s (pad64 (sched p k)))) := H1
          replace H2 : Hid (Blk (wr.drewN nq) w.heap.size 117 (u32s (pad64 []))) := H2
          replace H3 : Hid (Chg nowhere w (wr.drewN nq)) := Lib.hid (H3.out.drewN nq)
          replace c16 : (wr.drewN nq).cell? _ = _ := c16
          replace c15 : (wr.drewN nq).cell? _ = _ := c15
          replace c7 : (wr.drewN nq).cell? _ = _ := c7
          replace c2 : (wr.drewN nq).cell? _ = _ := c2
          replace hcz : (wr.drewN nq).cell? _ = _ := hcz
          replace hfz : (wr.drewN nq).frozen? _ = _ := hfz
          generalize wr.drewN nq = wq at *
          have HN := Lib.hid (H1.out.set_ n (.int .u32 (t3 : Int)))
          have HN2 := Lib.hid (H2.out.far (p := ⟨w.heap.size + 1, n, none⟩) (by show w.heap.size ≠ w.heap.size + 1; omega) (.int .u32 (t3 : Int)))
          have HC := Lib.hid (H3.out.setCell (p := ⟨w.heap.size + 1, n, none⟩) (fun h => by have h' : w.heap.size + 1 < w.heap.size := h; omega) (.int .u32 (t3 : Int)))
          rw [u32s_set, show (pad64 (sched p k)).set n t3 = pad64 (sched p (k + 1)) by
            rw [HSC.out, HT.out]
            have := pad64_set (sched p k) (nextW (sched p k) n) (by rw [sched_len]; have := HNN.out; omega)
            rwa [sched_len, ← HNN.out] at this] at HN
          refine (right_calls x15 7 _ l15 (by decide) (by decide)).mono ?_
          rintro e w2 ⟨rfl, rfl⟩
          go_wp2_with fail
          refine (right_calls x15 18 _ l15 (by decide) (by decide)).mono ?_
          rintro e w2 ⟨rfl, rfl⟩
          go_wp2_with fail
          refine (right_calls x2 17 _ l2 (by decide) (by decide)).mono ?_
          rintro e w2 ⟨rfl, rfl⟩
          go_wp2_with fail
          refine (right_calls x2 19 _ l2 (by decide) (by decide)).mono ?_
          rintro e w2 ⟨rfl, rfl⟩
          go_wp2_with fail
          go_still_tail 15, (by kernel_rfl)
          change wpList _ _ _ _ _ (World.drew _)
          go_wp2_with fail
          refine ⟨?_, by simp [intOf]; omega⟩
          (repeat apply Exists.intro); exact ⟨⟨k + 1, by have h := HNN.out; omega, by have h := HNN.out; congr 1; omega, HN.out, HN2.out, HC.out.drew⟩, rfl⟩
        · have e1 : (64 : Int) ≤ n := by omega
          obtain rfl : k = 48 := by omega
          have h64 : (sched p 48).length = 64 := sched_len p 48
          rw [pad64_full _ h64, ← hws.out] at H1
          rw [← hws.out] at h64
          have hi : (Tryz.prog.info? 117).map (·.size) = some 64 := by kernel_rfl
          have hlen1 : (u32s (ws)).size = 64 := by rw [u32s_size, h64]
          have hlen0 : (u32s (pad64 [])).size = 64 := by rw [u32s_size]; rfl
          clear hn hlen h64
          go_wp2_with (first | (refine wpList_load_row rfl 117 _ rfl (w.heap.size + 1) rfl 117 _ (0, 0) _ H1.out Tryz.underlying117 rfl (by rw [hlen1]; exact hi) ?_) | (refine wpList_store_row rfl 117 _ _ rfl w.heap.size _ rfl rfl 117 _ H2.out (by rw [hlen1]; exact hi) (by rw [hlen1]; exact hlen0) (u32s_one _) ?_))
          refine bodyPost_ret (v := .agg (u32s (ws))) (results_cell_row rfl _ _ w.heap.size 117 _ (0, 0) _ rfl (H2.out.row_ _) Tryz.underlying117 rfl (by rw [hlen1]; exact hi)) rfl ⟨rfl, ?_⟩
          exact H3.out.setRow (fun h => by omega) _
end Go.Proofs.YtmnapacibpnodaaGreat
end
section
open Go Go.RowKit
namespace Go.Proofs.YtmnapacibpnodaaGreat
theorem wpList_build_eq {P : Program} {ops : Array Oper} {rest : List Oper} {o : Oper} {a : Act} {w : World} {Q : Exit → Act → World → Prop} (hg : o.guard = none) (t : TypeId) (parts : Array (Nat × Operand)) (ho : o.op = .build t parts)
    (cs : Array Value) (hf : P.built t (parts.map fun (i, x) => (i, a.eval x)).toList = some cs) (h : wpList P ops Q rest (a.put o.dst (.agg cs)) w) : wpList P ops Q (o :: rest) a w :=
  wpList_build hg t parts ho (by rw [hf]; rfl) (by rw [hf]; exact h)
theorem Apart.part {S : Nat → Prop} {A : Option Addr} {p q : List UInt8} (h : Apart S A (bs p)) (hq : q ≠ [] → p ≠ []) : Apart S A (bs q) := fun hne ad e =>
  h (by
    have : q ≠ [] := by rintro rfl; exact hne rfl
    have h2 := hq this
    intro h3
    exact h2 (by simpa [bs] using h3)) ad e
theorem addr_bare {w : World} {a : Addr} {v : Value} (h : w.cell? a = some v) : a = ⟨a.block, a.off, none⟩ := by
  rcases a with ⟨b, o, s⟩
  cases s with
  | none => rfl
  | some x =>
    unfold World.cell? at h
    split at h
    · simp at h
    · cases h
/-- the rest of a slice, as the walk spells it -/
theorem rd_from {w : World} {B : Option Addr} {d : Nat} {p : List UInt8} (s : Nat) (hr : Rd w B (bs p)) (hp : p.length ≤ d) :
    Rd w (if d = s then B else B.map fun x => { block := x.block, off := x.off + s }) (bs (p.drop s)) ∧ ∀ S, Apart S B (bs p) → Apart S (if d = s then B else B.map fun x => { block := x.block, off := x.off + s }) (bs (p.drop s)) := by
  by_cases h : d = s
  · rw [if_pos h, List.drop_eq_nil_of_le (by omega)]
    exact ⟨Rd.nil _ _, fun S _ hne => absurd rfl hne⟩
  · rw [if_neg h]
    refine ⟨?_, fun S hA => ?_⟩
    · intro k u hk
      obtain ⟨ad, rfl, hc⟩ := hr (s + k) u (by rw [show bs (p.drop s) = (bs p).drop s from List.map_drop, List.getElem?_drop] at hk; exact hk)
      refine ⟨_, rfl, ?_⟩
      have e : (({ block := ad.block, off := ad.off + s } : Addr).add k) = ad.add (s + k) := by
        by_cases h0 : s + k = 0
        · obtain rfl : s = 0 := by omega
          obtain rfl : k = 0 := by omega
          rw [add_zero_spot] at hc
          rw [add_zero_spot, add_zero_spot]
          exact (addr_bare hc).symm
        · by_cases hk0 : k = 0
          · subst hk0
            simp [Addr.add, show s ≠ 0 by omega]
          · simp [Addr.add, hk0, Nat.add_assoc]
      rw [e]
      exact hc
    · have hA' := hA.part (q := p.drop s) (by rintro h rfl; simp at h)
      intro hne ad e
      rcases B with _ | ad0
      · cases e
      · injection e with e
        subst e
        exact hA' hne ad0 rfl
set_option maxRecDepth 100000 in
set_option maxHeartbeats 400000 in
theorem rounds_calls (w : World) : Calls Tryz.prog 105 #[] w fun e w' => e = .returned (.agg (u32s kSha)) ∧ Hid (Chg nowhere w w') := by
  go_enter Tryz.func105, Tryz.ntmps105
  go_wp2_with (first | (refine wpList_build_eq rfl 117 _ rfl (u32s kSha) (by kernel_rfl) ?_) | (refine wpList_store_row rfl 117 _ _ rfl w.heap.size (u32s kSha) rfl rfl 117 _ (heap_alloc_new w _) (by kernel_rfl) (by kernel_rfl) (u32s_one _) ?_))
  refine bodyPost_ret (v := .agg (u32s kSha)) (results_cell_row rfl _ _ w.heap.size 117 (u32s kSha) (0, 0) _ rfl ((Blk.new w _ _).row_ _) Tryz.underlying117 rfl (by kernel_rfl)) rfl ⟨rfl, ?_⟩
  exact ((Chg.refl _ _).alloc _).setRow (fun h => by omega) _
set_option maxRecDepth 100000 in
set_option maxHeartbeats 400000 in
theorem mix_calls (g gk : Nat) (A : Option Addr) (n c m : Nat) (p : List UInt8) (v : V8) (w : World) (hv : v.ok) (hb : Blk w g 173 (u32s v.l)) (hk : Blk w gk 117 (u32s kSha)) (hr : Rd w A (bs p)) (hn : p.length = n) (hm : n = 64 * m) (hc : n ≤ c)
    (hA : Apart (fun k => k = g) A (bs p)) (hgk : gk ≠ g) :
    Calls Tryz.prog 106 #[.pointer (some ⟨g, 0, none⟩), .slice A n c, .pointer (some ⟨gk, 0, none⟩)] w fun e w' => e = .returned (.tuple #[]) ∧
      Hid (Blk w' g 173 (u32s (mixSha m v p).l)) ∧ Hid (Chg (fun k => k = g) w w') := by
  have HV := Lib.hid hv
  have HB := Lib.hid hb
  have HK := Lib.hid hk
  have HR := Lib.hid hr
  have HN := Lib.hid hn
  have HM := Lib.hid hm
  have HA := Lib.hid hA
  clear hv hb hk hr hn hm hA
  go_enter Tryz.func106, Tryz.ntmps106
  go_wp2_with fail
  go_loopw [1, 6] (fun s _ wr => ∃ (k l d : Nat) (B : Option Addr), k ≤ m ∧ s = .slice B l d ∧ l = 64 * (m - k) ∧ l ≤ d ∧ d ≤ c ∧ Rd wr B (bs (p.drop (64 * k))) ∧ Apart (fun k => k = g) B (bs (p.drop (64 * k))) ∧
      Blk wr g 173 (u32s (mixSha k v p).l) ∧ Chg (fun k => k = g) w wr) (fun s _ _ => match s with | .slice _ l _ => l | _ => 0)
  case atStart =>
    exact ⟨0, n, c, A, Nat.zero_le _, rfl, HM.out, hc, Nat.le_refl _, HR.out, HA.out, HB.out, Chg.refl _ _⟩
  case round =>
    obtain ⟨k, l, d, B, hkm, rfl, hl, hld, hdc, hr, hB, hb, hch⟩ := hrel
    have HL := Lib.hid hl
    have HR1 := Lib.hid hr
    have HB1 := Lib.hid hB
    have HB2 := Lib.hid hb
    have HC1 := Lib.hid hch
    clear hr hB hb hch
    by_cases hlt : k < m
    · have e1 : (64 : Int) ≤ l := by omega
      have e2 : 64 ≤ d := by omega
      have e3 : (64 : Int) ≤ d := by omega
      clear hl
      have hp64 : ((p.drop (64 * k)).take 64).length = 64 := by
        have := HN.out; have := HM.out
        simp; omega
      have HP64 := Lib.hid hp64
      have HRT : Hid (Rd wr B (bs ((p.drop (64 * k)).take 64))) := Lib.hid (by rw [← bs_take]; exact HR1.out.take 64)
      clear hp64
      obtain ⟨ws, hws⟩ : ∃ ws, ws = sched ((p.drop (64 * k)).take 64) 48 := ⟨_, rfl⟩
      have HWS := Lib.hid hws
      clear hws
      go_wp2_with fail
      refine (words_calls B _ _ ws _ HRT.out HP64.out HWS).mono ?_
      rintro e w2 ⟨rfl, hc2⟩
      have hi : (Tryz.prog.info? 117).map (·.size) = some 64 := by kernel_rfl
      have hwl : ws.length = 64 := by rw [HWS.out, sched_len]
      have hlen1 : (u32s ws).size = 64 := by rw [u32s_size, hwl]
      have HI := Lib.hid hi
      have HWL := Lib.hid hwl
      have HLEN1 := Lib.hid hlen1
      clear hi hwl hlen1
      go_wp2_with (refine wpList_store_row rfl 117 _ _ rfl w2.heap.size (u32s ws) rfl rfl 117 _ (heap_alloc_new w2 _) (by rw [HLEN1.out]; exact HI.out) (by rw [HLEN1.out]; rfl) (u32s_one _) ?_)
      rw [World.setRow_alloc_new]
      have hb2 : Blk (w2.alloc (.cells (u32s ws) 117)) g 173 (u32s (mixSha k v p).l) := (HB2.out.chg hc2.out (fun h => h)).alloc _
      have hk2 : Blk (w2.alloc (.cells (u32s ws) 117)) gk 117 (u32s kSha) := ((HK.out.chg HC1.out hgk).chg hc2.out (fun h => h)).alloc _
      refine (turn_calls g w2.heap.size gk (mixSha k v p) ws kSha _ (mixSha_ok HV.out _ _) hb2 (Blk.new w2 _ _) hk2 HWL.out kSha_len (by rw [HWS.out]; exact sched_lt _ _) kSha_lt).mono ?_
      rintro e w3 ⟨rfl, h4, h5⟩
      have HST : Hid (Blk w3 g 173 (u32s (mixSha (k + 1) v p).l)) := Lib.hid (by
        have h := h4.out
        rw [HWS.out] at h
        rw [mixSha_snoc]
        exact h)
      have HC3 : Hid (Chg (fun k => k = g) w w3) := Lib.hid (HC1.out.trans (((hc2.out.alloc (.cells (u32s ws) 117)).mono (fun _ _ h => h.elim)).trans h5.out (fun _ _ h => h)) (fun _ _ h => h))
      have HR3 : Hid (Rd w3 B (bs (p.drop (64 * k)))) := Lib.hid (((HR1.out.later hc2.out).alloc (.cells (u32s ws) 117)).chg h5.out HB1.out)
      have hcut := rd_from (d := d) 64 HR3.out (by
        have h1 := HN.out
        have h2 := HM.out
        have h3 := HL.out
        have h4 : m - k + k = m := by omega
        rw [List.length_drop]
        omega)
      have hcut2 := hcut.2 _ HB1.out
      have hcut1 := hcut.1
      rw [List.drop_drop] at hcut1 hcut2
      have HCUT := Lib.hid (And.intro hcut1 hcut2)
      clear h4 h5 hb2 hk2 hcut hcut1 hcut2
      go_wp2_with fail
      refine ⟨⟨k + 1, l - 64, d - 64, _, by omega, rfl, by have := HL.out; omega, by omega, by omega, HCUT.out.1, HCUT.out.2, HST.out, HC3.out⟩, ?_⟩
      show l - 64 < l
      omega
    · have e1 : ¬ (64 : Int) ≤ l := by omega
      clear hl
      go_wp2_with fail
      go_end0
      obtain rfl : k = m := by omega
      exact ⟨rfl, HB2, HC1⟩
end Go.Proofs.YtmnapacibpnodaaGreat
end
section
open Go Go.RowKit
namespace Go.Proofs.YtmnapacibpnodaaGreat
def outByte (v : V8) (i : Nat) : UInt8 := UInt8.ofNat (v.l.getD (i / 4) 0 / 2 ^ (24 - 8 * (i % 4)))
def outPart (v : V8) (k : Nat) : List UInt8 := (List.range 32).map fun i => if i < k then outByte v i else 0
theorem outPart_end (v : V8) : outPart v 32 = outSha v := by
  unfold outPart outSha outByte
  apply List.map_congr_left
  intro i hi
  rw [if_pos (List.mem_range.1 hi)]
theorem outPart_set (v : V8) (k : Nat) : (u8s (outPart v k)).setIfInBounds k (u8v (outByte v k)) = u8s (outPart v (k + 1)) := by
  rw [show u8v (outByte v k) = .int .u8 ((outByte v k).toNat : Int) from rfl, u8s_set]
  congr 1
  apply List.ext_getElem
  · simp [outPart]
  · intro i h1 h2
    have hi : i < 32 := by simpa [outPart] using h2
    rw [List.getElem_set]
    simp only [outPart, List.getElem_map, List.getElem_range]
    by_cases h : k = i
    · subst h
      rw [if_pos rfl, if_pos (by omega)]
    · rw [if_neg h]
      by_cases h3 : i < k
      · rw [if_pos h3, if_pos (by omega)]
      · rw [if_neg h3, if_neg (by omega)]
set_option maxRecDepth 100000 in
set_option maxHeartbeats 400000 in
theorem hash_calls (g : Nat) (v : V8) (w : World) (hv : v.ok) (hb : Blk w g 173 (u32s v.l)) :
    Calls Tryz.prog 107 #[.pointer (some ⟨g, 0, none⟩)] w fun e w' => e = .returned (.agg (u8s (outSha v))) ∧ Hid (Chg nowhere w w') := by
  have HB := Lib.hid hb
  have HV := Lib.hid hv
  clear hb hv
  go_enter Tryz.func107, Tryz.ntmps107
  go_wp2_with fail
  go_loopw [4, 5] (fun _ t wr => ∃ k : Nat, k ≤ 32 ∧ t = .int .i64 k ∧ Blk wr (w.heap.size + 1) 26 (u8s (outPart v k)) ∧ Blk wr w.heap.size 26 (u8s (outPart v 0)) ∧ Chg nowhere w wr) (fun _ t _ => 32 - (intOf t).toNat)
  case atStart =>
    have h0 : u8s (outPart v 0) = u8s (List.replicate 32 0) := by
      rfl
    rw [h0]
    refine ⟨0, Nat.zero_le _, rfl, ?_, ?_, ((Chg.refl _ _).alloc _).alloc _⟩
    · exact Blk.new1 w _ _ _
    · exact (Blk.new w _ _).alloc _
  case round =>
    obtain ⟨k, hk, rfl, h1, h2, h3⟩ := hrel
    have H1 := Lib.hid h1
    have H2 := Lib.hid h2
    have H3 := Lib.hid h3
    clear h1 h2 h3
    by_cases hlt : k < 32
    · have e1 : (k : Int) < 32 := by omega
      have hj : k / 4 < 8 := by omega
      have hcell : wr.cell? ⟨g, k / 4, none⟩ = some (.int .u32 (v.l.getD (k / 4) 0 : Nat)) := by
        rw [(HB.out.chg H3.out (fun h => h)).cell]
        exact u32s_get v.l (k / 4) hj
      have hx : v.l.getD (k / 4) 0 < 4294967296 := getD_lt (by
        obtain ⟨a1, a2, a3, a4, a5, a6, a7, a8⟩ := HV.out
        intro x hx
        simp only [V8.l, List.mem_cons, List.not_mem_nil, or_false] at hx
        rcases hx with rfl | rfl | rfl | rfl | rfl | rfl | rfl | rfl <;> assumption) _
      obtain ⟨x, hxe⟩ : ∃ x, x = v.l.getD (k / 4) 0 := ⟨_, rfl⟩
      rw [← hxe] at hcell hx
      have HX := Lib.hid hxe
      clear hxe
      have hcz : wr.cell? ⟨w.heap.size + 1, k, none⟩ = some (u8v ((outPart v k).getD k 0)) := by
        rw [H1.out.cell]
        have : k < (outPart v k).length := by simp [outPart]; omega
        exact u8s_get _ _ this
      have hfz : wr.frozen? ⟨w.heap.size + 1, k, none⟩ = false := H1.out.frozen k
      have hval : Hid (Value.int .u8 ((x : Int) / 2 ^ (24 - k % 4 * 8) % 256) = u8v (outByte v k)) := Lib.hid (by
        unfold outByte u8v
        rw [← HX.out, show 8 * (k % 4) = k % 4 * 8 by omega]
        simp)
      have HP := Lib.hid (H1.out.set_ k (u8v (outByte v k)))
      have HQ := Lib.hid (H2.out.far (p := ⟨w.heap.size + 1, k, none⟩) (by show w.heap.size ≠ w.heap.size + 1; omega) (u8v (outByte v k)))
      have HC := Lib.hid (H3.out.setCell (p := ⟨w.heap.size + 1, k, none⟩) (fun h => by have h' : w.heap.size + 1 < w.heap.size := h; omega) (u8v (outByte v k)))
      rw [outPart_set] at HP
      go_wp2_with fail
      rw [hval.out]
      exact ⟨⟨k + 1, by omega, by go_num, HP.out, HQ.out, HC.out⟩, by simp [intOf]; omega⟩
    · have e1 : (32 : Int) ≤ k := by omega
      obtain rfl : k = 32 := by omega
      rw [outPart_end] at H1
      have hi : (Tryz.prog.info? 26).map (·.size) = some 32 := by kernel_rfl
      have hlen0 : (u8s (outPart v 0)).size = 32 := by simp [u8s_size, outPart]
      have hlen : (u8s (outSha v)).size = 32 := by simp [u8s_size, outSha]
      go_wp2_with (first | (refine wpList_load_row rfl 26 _ rfl (w.heap.size + 1) rfl 26 _ (0, 0) _ H1.out Tryz.underlying26 rfl (by rw [hlen]; exact hi) ?_) | (refine wpList_store_row rfl 26 _ _ rfl w.heap.size _ rfl rfl 26 _ H2.out (by rw [hlen]; exact hi) (by rw [hlen]; exact hlen0) (u8s_one _) ?_))
      refine bodyPost_ret (v := .agg (u8s (outSha v))) (results_cell_row rfl _ _ w.heap.size 26 _ (0, 0) _ rfl (H2.out.row_ _) Tryz.underlying26 rfl (by rw [hlen]; exact hi)) rfl ⟨rfl, ?_⟩
      exact H3.out.setRow (fun h => by omega) _
end Go.Proofs.YtmnapacibpnodaaGreat
end
section
open Go Go.RowKit
namespace Go.Proofs.YtmnapacibpnodaaGreat
def nots (n : Nat) : List UInt8 := List.replicate n 0
theorem nots_drop (k r : Nat) : (nots k).drop r = nots (k - r) := by unfold nots; rw [List.drop_replicate]
theorem nots_len (n : Nat) : (nots n).length = n := by simp [nots]
/-- the length's eight bytes, the last i of them laid -/
def winN (N i : Nat) : List UInt8 := nots (8 - i) ++ (be64 N).drop (8 - i)
theorem winN_len (N i : Nat) (_h : i ≤ 8) : (winN N i).length = 8 := by
  simp [winN, nots, be64]
  try omega
theorem winN_set (N i : Nat) (h : i < 8) : (winN N i).set (7 - i) (UInt8.ofNat (N / 2 ^ (8 * i))) = winN N (i + 1) := by
  rcases (show i = 0 ∨ i = 1 ∨ i = 2 ∨ i = 3 ∨ i = 4 ∨ i = 5 ∨ i = 6 ∨ i = 7 by omega) with rfl | rfl | rfl | rfl | rfl | rfl | rfl | rfl <;> rfl
theorem winN_start (N : Nat) : winN N 0 = nots 8 := rfl
theorem winN_end (N : Nat) : winN N 8 = be64 N := rfl
/-- the end's room: what is left over, the mark, noughts, the length -/
def endWin (p : List UInt8) (N to i : Nat) : List UInt8 := p ++ [128] ++ nots (to - p.length - 9) ++ winN N i ++ nots (128 - to)
theorem endWin_len (p : List UInt8) (N to i : Nat) (h : i ≤ 8) (hp : p.length + 9 ≤ to) (ht : to ≤ 128) : (endWin p N to i).length = 128 := by
  simp [endWin, winN_len N i h, nots_len]
  omega
theorem endWin_set (p : List UInt8) (N to i : Nat) (h : i < 8) (hp : p.length + 9 ≤ to) : (endWin p N to i).set (to - 1 - i) (UInt8.ofNat (N / 2 ^ (8 * i))) = endWin p N to (i + 1) := by
  have hl : (p ++ [128] ++ nots (to - p.length - 9)).length = to - 8 := by simp [nots_len]; omega
  unfold endWin
  rw [List.set_append_left _ _ (by simp [winN_len N i (by omega), nots_len]; omega), List.set_append_right _ _ (by rw [hl]; omega), hl,
    show to - 1 - i - (to - 8) = 7 - i by omega, winN_set N i h]
theorem endWin_start (p : List UInt8) (N to : Nat) (hp : p.length + 9 ≤ to) (ht : to ≤ 128) : (p ++ nots (128 - p.length)).set p.length 128 = endWin p N to 0 := by
  unfold endWin
  rw [List.set_append_right _ _ (Nat.le_refl _), Nat.sub_self, winN_start]
  have e1 : nots (128 - p.length) = (0 : UInt8) :: (nots (to - p.length - 9) ++ nots 8 ++ nots (128 - to)) := by
    unfold nots
    rw [List.replicate_append_replicate, List.replicate_append_replicate, ← List.replicate_succ]
    congr 1
    omega
  rw [e1]
  simp
theorem endWin_take (p : List UInt8) (N to : Nat) (hp : p.length + 9 ≤ to) : (endWin p N to 8).take to = p ++ [128] ++ nots (to - p.length - 9) ++ be64 N := by
  unfold endWin
  rw [winN_end, List.take_left' (by simp [nots_len, be64]; omega)]
theorem sha_parts (p q r : List UInt8) (m to : Nat) (hpq : p = q ++ r) (hq : q.length = 64 * m) (hr : r.length < 64) (hto : to = if r.length + 9 ≤ 64 then 64 else 128) :
    outSha (mixSha (to / 64) (mixSha m initSha q) (r ++ [128] ++ nots (to - r.length - 9) ++ be64 (8 * p.length))) = sha p := by
  have hn : p.length = 64 * m + r.length := by rw [hpq, List.length_append, hq]
  have hz : padN p.length = to - r.length - 9 := by
    unfold padN
    rw [hn, hto]
    split <;> omega
  have hm : (p.length + 72) / 64 = m + to / 64 := by
    rw [hn, hto]
    split <;> omega
  have hp : padded p = q ++ (r ++ [128] ++ nots (to - r.length - 9) ++ be64 (8 * p.length)) := by
    unfold padded
    rw [hz]
    conv => lhs; rw [show p ++ [128] = q ++ (r ++ [128]) by rw [hpq, List.append_assoc]]
    simp [nots, noughtBytes]
  unfold sha
  rw [hm, hp, mixSha_add, mixSha_take _ _ _ _ hq, List.drop_left' hq]
set_option maxRecDepth 100000 in
set_option maxHeartbeats 1600000 in
theorem dSumW_calls (A : Option Addr) (n c : Nat) (p : List UInt8) (w : World) (hr : Rd w A (bs p)) (hn : p.length = n) (hc : n ≤ c) (hn9 : n ≤ 140737488351232) :
    Calls Tryz.prog 82 #[.slice A n c] w fun e w' => e = .returned (.agg (u8s (sha p))) ∧ Hid (Chg nowhere w w') := by
  have HR := Lib.hid hr
  have HN := Lib.hid hn
  have hi60 := Lib.hid (show (Tryz.prog.info? 117).map (·.size) = some 64 by kernel_rfl)
  have hi25 := Lib.hid (show (Tryz.prog.info? 26).map (·.size) = some 32 by kernel_rfl)
  have hlk := Lib.hid (show (u32s kSha).size = 64 by rw [u32s_size, kSha_len])
  obtain ⟨m, hm⟩ : ∃ m, m = n / 64 := ⟨_, rfl⟩
  have hq : ((n : Int) / 64) = (m : Int) := by rw [hm]; rfl
  have hmn : 64 * m ≤ n := by omega
  have hmn2 : n < 64 * m + 64 := by omega
  obtain ⟨W, hW⟩ : ∃ W, W = 64 * m := ⟨_, rfl⟩
  have hq2 : ((m : Int) * 64) = (W : Int) := by omega
  have HW := Lib.hid hW
  have hWn : W ≤ n := by omega
  have hWn2 : n < W + 64 := by omega
  have hWc : W ≤ c := by omega
  have HM := Lib.hid hm
  clear hr hn hm hW hmn hmn2
  go_enter Tryz.func82, Tryz.ntmps82
  go_wp2_with fail
  refine (rounds_calls _).mono ?_
  rintro e w1 ⟨rfl, h1⟩
  have HC1 := Lib.hid (((Chg.refl nowhere w).alloc _).step h1.out (fun _ h => h.elim))
  go_wp2_with (refine wpList_store_row rfl 117 _ _ rfl w1.heap.size (u32s kSha) rfl rfl 117 _ (heap_alloc_new w1 _) (by rw [hlk.out]; exact hi60.out) (by rw [hlk.out]; rfl) (u32s_one _) ?_)
  rw [World.setRow_alloc_new]
  have hpt : (p.take W).length = W := by rw [List.length_take, HN.out]; omega
  refine (mix_calls (w1.heap.size + 1) w1.heap.size A W c m (p.take W) initSha _ initSha_ok (Blk.new1 w1 _ _ _) ((Blk.new w1 _ _).alloc _) ?_ hpt HW.out hWc ?_ (by omega)).mono ?_
  · rw [← bs_take]
    exact (((HR.out.take W).later HC1.out).alloc _).alloc _
  · exact (HR.out.apart (S := fun k => k = w1.heap.size + 1) (fun k hk => by have := HC1.out.size; omega)).part (by rintro h rfl; simp at h)
  rintro e w2 ⟨rfl, h2, h3⟩
  have HRES : Hid (Blk w2 w.heap.size 26 (u8s (nots 32))) := Lib.hid (by
    have b1 : Blk (w.alloc (.cells (u8s (nots 32)) 26)) w.heap.size 26 (u8s (nots 32)) := Blk.new w _ _
    have hz := HC1.out.size
    have hz1 := h1.out.size
    simp at hz1
    exact (((b1.chg h1.out (fun h => h)).alloc _).alloc _).chg h3.out (fun h => by omega))
  have HKK : Hid (Blk w2 w1.heap.size 117 (u32s kSha)) := Lib.hid (((Blk.new w1 _ _).alloc _).chg h3.out (fun h => by omega))
  have HC2 : Hid (Chg nowhere w w2) := Lib.hid ((((HC1.out.alloc _).alloc _)).step h3.out (fun k hk => by have := HC1.out.size; omega))
  have hz1 : w.heap.size < w1.heap.size := by
    have h := h1.out.size
    simp at h
    omega
  have hz2 : w1.heap.size + 1 < w2.heap.size := by
    have h := h3.out.size
    simp at h
    omega
  clear h1 h3
  have hz66 : Tryz.zeroCells175 = u8s (nots 128) := by kernel_rfl
  go_wp2_with fail
  clear hz66
  obtain ⟨w3, hw3⟩ : ∃ w3, w3 = w2.alloc (.cells (u8s (nots 128)) 175) := ⟨_, rfl⟩
  rw [← hw3]
  obtain ⟨z0, hz0⟩ : ∃ z, z = w.heap.size := ⟨_, rfl⟩
  obtain ⟨z1, hz1e⟩ : ∃ z, z = w1.heap.size := ⟨_, rfl⟩
  obtain ⟨z3, hz3e⟩ : ∃ z, z = w2.heap.size := ⟨_, rfl⟩
  have HE : Hid (Blk w3 z3 175 (u8s (nots 128))) := Lib.hid (by rw [hw3, hz3e]; exact Blk.new w2 _ _)
  have HRES3 : Hid (Blk w3 z0 26 (u8s (nots 32))) := Lib.hid (by rw [hw3, hz0]; exact HRES.out.alloc _)
  have HK3 : Hid (Blk w3 z1 117 (u32s kSha)) := Lib.hid (by rw [hw3, hz1e]; exact HKK.out.alloc _)
  have HS3 : Hid (Blk w3 (z1 + 1) 173 (u32s (mixSha m initSha (p.take W)).l)) := Lib.hid (by rw [hw3, hz1e]; exact h2.out.alloc _)
  have HC3 : Hid (Chg nowhere w w3) := Lib.hid (by rw [hw3]; exact HC2.out.alloc _)
  rw [← hz0, ← hz1e, ← hz3e]
  rw [← hz0, ← hz1e] at hz1
  rw [← hz1e, ← hz3e] at hz2
  have HZ0 := Lib.hid hz0
  clear hw3 hz1e hz3e HRES HKK HC2 h2 HC1 hz0 hpt
  have hrcA : c = W → Rd w3 A (bs (p.drop W)) := fun h => by
    rw [List.drop_eq_nil_of_le (by have := HN.out; omega)]
    exact Rd.nil _ _
  have hrcB : Rd w3 (A.map (·.add W)) (bs (p.drop W)) := by
    have h := (HR.out.later HC3.out).drop W
    rwa [show (bs p).drop W = bs (p.drop W) from List.map_drop.symm] at h
  have HXL : Hid ((p.drop W).length = n - W) := Lib.hid (by rw [List.length_drop, HN.out])
  have hxl64 : n - W ≤ 128 := by omega
  have hrle : n - W < 64 := by omega
  have HFIT : Hid (0 + (n - W) ≤ (nots 128).length) := Lib.hid (by rw [nots_len]; omega)
  have hor : (c = W ∧ Hid (Rd w3.drew A (bs (p.drop W)))) ∨ (¬ c = W ∧ Hid (Rd w3.drew (A.map (·.add W)) (bs (p.drop W)))) := by
    by_cases hcw : c = W
    · exact .inl ⟨hcw, hrcA hcw⟩
    · exact .inr ⟨hcw, hrcB⟩
  clear hrcA hrcB
  replace HE : Hid (Blk w3.drew z3 175 (u8s (nots 128))) := HE
  replace HRES3 : Hid (Blk w3.drew z0 26 (u8s (nots 32))) := HRES3
  replace HK3 : Hid (Blk w3.drew z1 117 (u32s kSha)) := HK3
  replace HS3 : Hid (Blk w3.drew (z1 + 1) 173 (u32s (mixSha m initSha (p.take W)).l)) := HS3
  replace HC3 : Hid (Chg nowhere w w3.drew) := Lib.hid HC3.out.drew
  rcases hor with ⟨hcW, HB⟩ | ⟨hcW, HB⟩
  all_goals
    go_still_tail 4, (by kernel_rfl)
    change wpList _ _ _ _ _ (World.drew w3)
    generalize World.drew w3 = w4 at *
    go_wp2_with (refine wpList_copyB rfl (.tmp 21) (.tmp 24) 34 34 rfl 5 Tryz.underlying34 (by kernel_rfl) rfl rfl HE.out HB.out HXL hxl64 HFIT ?_)
    intro w5 hE5 hC5
    obtain ⟨r, hr⟩ : ∃ r, r = n - W := ⟨_, rfl⟩
    obtain ⟨rp, hrp⟩ : ∃ rp, rp = p.drop W := ⟨_, rfl⟩
    rw [← hr] at hE5 HXL hrle hxl64 ⊢
    rw [← hrp] at hE5 HXL
    have hsplit : p = p.take W ++ rp := by rw [hrp, List.take_append_drop]
    have hqlen : (p.take W).length = 64 * m := by rw [List.length_take, HN.out, ← HW.out]; omega
    have HSPLIT := Lib.hid hsplit
    have HQLEN := Lib.hid hqlen
    have HHR := Lib.hid hr
    have hE5' : Hid (Blk w5 z3 175 (u8s (rp ++ nots (128 - r)))) := by
      rw [← nots_drop]
      exact hE5
    have hcr : w5.cell? ⟨z3, r, none⟩ = some (.int .u8 (((rp ++ nots (128 - r)).getD r 0).toNat : Int)) := by
      rw [hE5'.out.cell]
      exact u8s_get _ _ (by simp [nots, HXL.out]; omega)
    have hfr : w5.frozen? ⟨z3, r, none⟩ = false := hE5'.out.frozen r
    have hr128 : (r : Int) < 128 := by omega
    have hE6 := hE5'.out.set_ r (.int .u8 ((128 : UInt8).toNat : Int))
    rw [u8s_set] at hE6
    have HE6 := Lib.hid hE6
    have HC6 : Hid (Chg (fun k => k = z3) w4 (w5.setCell ⟨z3, r, none⟩ (.int .u8 128))) := Lib.hid (hC5.out.setCell (p := ⟨z3, r, none⟩) (fun _ => rfl) _)
    clear hr hrp hsplit hqlen hE5 hE5' hC5 hE6
    obtain ⟨N, hN⟩ : ∃ N, N = 8 * n := ⟨_, rfl⟩
    have hNq : (n : Int) * 8 = (N : Int) := by omega
    have HNN := Lib.hid hN
    have hN9 : N ≤ 1125899906809856 := by omega
    clear hN
    by_cases h55 : r + 9 ≤ 64
    · have e1 : ¬ (64 : Int) < r + 1 + 8 := by omega
      have hto9 : rp.length + 9 ≤ 64 := by have := HXL.out; omega
      have HSTART : Hid (Blk (w5.setCell ⟨z3, r, none⟩ (.int .u8 128)) z3 175 (u8s (endWin rp N 64 0))) := by
        rw [← endWin_start rp N 64 hto9 (by decide), HXL.out]
        exact HE6
      have HTO9 := Lib.hid hto9
      clear hto9 HE6
      go_wp2_with fail
      go_loopw [9, 10] (fun t d wr => ∃ i : Nat, i ≤ 8 ∧ t = .int .i64 i ∧ d = .int .u64 ((N / 2 ^ (8 * i) : Nat) : Int) ∧ Blk wr z3 175 (u8s (endWin rp N 64 i)) ∧ Chg (fun k => k = z3) w4 wr) (fun t _ _ => 8 - (intOf t).toNat)
      case atStart => exact ⟨0, Nat.zero_le _, rfl, by simp, HSTART.out, HC6.out⟩
      case round =>
        obtain ⟨i, hi, rfl, rfl, h1, h2⟩ := hrel
        have H1 := Lib.hid h1
        have H2 := Lib.hid h2
        clear h1 h2
        by_cases hlt : i < 8
        · have e2 : (i : Int) < 8 := by omega
          have hx9 : N / 2 ^ (8 * i) ≤ 1125899906809856 := Nat.le_trans (Nat.div_le_self _ _) hN9
          have hnx : N / 2 ^ (8 * (i + 1)) = N / 2 ^ (8 * i) / 256 := by
            rw [Nat.div_div_eq_div_mul, show (256 : Nat) = 2 ^ 8 from rfl, ← Nat.pow_add]
            congr 1
          obtain ⟨x, hx⟩ : ∃ x, x = N / 2 ^ (8 * i) := ⟨_, rfl⟩
          rw [← hx] at hx9 hnx ⊢
          have hcell : wr.cell? ⟨z3, 64 - 1 - i, none⟩ = some (.int .u8 (((endWin rp N 64 i).getD (64 - 1 - i) 0).toNat : Int)) := by
            rw [H1.out.cell]
            exact u8s_get _ _ (by rw [endWin_len _ _ _ _ (by omega) HTO9.out (by decide)]; omega)
          have hfz : wr.frozen? ⟨z3, 64 - 1 - i, none⟩ = false := H1.out.frozen _
          have hst := H1.out.set_ (64 - 1 - i) (.int .u8 ((UInt8.ofNat (N / 2 ^ (8 * i))).toNat : Int))
          rw [u8s_set, endWin_set _ _ _ _ hlt HTO9.out, ← hx] at hst
          have hv : ((UInt8.ofNat x).toNat : Int) = (x : Int) % 256 := by simp
          rw [hv] at hst
          have hch := H2.out.setCell (p := ⟨z3, 64 - 1 - i, none⟩) (fun _ => rfl) (.int .u8 ((x : Int) % 256))
          rw [show 64 - 1 - i = 63 - i by omega] at hcell hfz hst hch
          have HST := Lib.hid hst
          have HCH := Lib.hid hch
          have HNX := Lib.hid hnx
          have e3 : (0 : Int) ≤ 63 - i := by omega
          have e4 : ((63 : Int) - (i : Int)).toNat = 63 - i := by omega
          clear hst hch hnx hx hv
          go_wp2_with fail
          exact ⟨⟨i + 1, by omega, by go_num, by rw [HNX.out]; rfl, HST.out, HCH.out⟩, by simp [intOf]; omega⟩
        · have e2 : (8 : Int) ≤ i := by omega
          obtain rfl : i = 8 := by omega
          have htl : ((endWin rp N 64 8).take 64).length = 64 := by rw [List.length_take, endWin_len _ _ _ _ (by decide) HTO9.out (by decide)]; decide
          have hrd : Rd wr (some ⟨z3, 0, none⟩) (bs ((endWin rp N 64 8).take 64)) := by
            rw [← bs_take]
            exact (rd_u8s H1.out).take 64
          have HRD := Lib.hid hrd
          have HTL := Lib.hid htl
          have HSS : Hid (Blk wr (z1 + 1) 173 (u32s (mixSha m initSha (p.take W)).l)) := Lib.hid (HS3.out.chg H2.out (fun h => by omega))
          have HKS : Hid (Blk wr z1 117 (u32s kSha)) := Lib.hid (HK3.out.chg H2.out (fun h => by omega))
          have HRS : Hid (Blk wr z0 26 (u8s (nots 32))) := Lib.hid (HRES3.out.chg H2.out (fun h => by omega))
          have HFIN : Hid (outSha (mixSha (64 / 64) (mixSha m initSha (p.take W)) ((endWin rp N 64 8).take 64)) = sha p) := Lib.hid (by
            rw [endWin_take _ _ _ HTO9.out]
            have h := sha_parts p (p.take W) rp m 64 HSPLIT.out HQLEN.out (by have := HXL.out; omega) (if_pos (by have := HXL.out; omega)).symm
            rw [HN.out, ← HNN.out] at h
            exact h)
          clear hrd htl
          go_wp2_with fail
          refine (mix_calls (z1 + 1) z1 _ 64 128 (64 / 64) ((endWin rp N 64 8).take 64) _ _ (mixSha_ok initSha_ok _ _) HSS.out HKS.out HRD.out HTL.out (by decide) (by decide) (fun _ ad e => by injection e with e; subst e; show ¬ z3 = z1 + 1; omega) (by omega)).mono ?_
          rintro e w7 ⟨rfl, h7, hc7⟩
          have HR7 : Hid (Blk w7 z0 26 (u8s (nots 32))) := Lib.hid (HRS.out.chg hc7.out (fun h => by omega))
          have hlen1 : (u8s (sha p)).size = 32 := by rw [u8s_size, sha_len]
          have HLEN1 := Lib.hid hlen1
          clear hlen1
          go_wp2_with fail
          refine (hash_calls (z1 + 1) _ _ (mixSha_ok (mixSha_ok initSha_ok _ _) _ _) h7.out).mono ?_
          rintro e w8 ⟨rfl, hc8⟩
          rw [HFIN.out]
          have HR8 : Hid (Blk w8 z0 26 (u8s (nots 32))) := Lib.hid (HR7.out.chg hc8.out (fun h => h))
          go_wp2_with (refine wpList_store_row rfl 26 _ _ rfl z0 _ rfl rfl 26 _ HR8.out (by rw [HLEN1.out]; exact hi25.out) (by rw [HLEN1.out]; rfl) (u8s_one _) ?_)
          refine bodyPost_ret (v := .agg (u8s (sha p))) (results_cell_row rfl _ _ z0 26 _ (0, 0) _ rfl (HR8.out.row_ _) Tryz.underlying26 rfl (by rw [HLEN1.out]; exact hi25.out)) rfl ⟨rfl, ?_⟩
          have hz0 := HZ0.out
          have hw4 := HC3.out.size
          exact ((((HC3.out.step H2.out (fun k hk => by omega)).step hc7.out (fun k hk => by omega)).step hc8.out (fun _ h => h.elim)).setRow (fun h => by omega) _)
    · have e1 : (64 : Int) < r + 1 + 8 := by omega
      have hto9 : rp.length + 9 ≤ 128 := by have := HXL.out; omega
      have HSTART : Hid (Blk (w5.setCell ⟨z3, r, none⟩ (.int .u8 128)) z3 175 (u8s (endWin rp N 128 0))) := by
        rw [← endWin_start rp N 128 hto9 (by decide), HXL.out]
        exact HE6
      have HTO9 := Lib.hid hto9
      clear hto9 HE6
      go_wp2_with fail
      go_loopw [9, 10] (fun t d wr => ∃ i : Nat, i ≤ 8 ∧ t = .int .i64 i ∧ d = .int .u64 ((N / 2 ^ (8 * i) : Nat) : Int) ∧ Blk wr z3 175 (u8s (endWin rp N 128 i)) ∧ Chg (fun k => k = z3) w4 wr) (fun t _ _ => 8 - (intOf t).toNat)
      case atStart => exact ⟨0, Nat.zero_le _, rfl, by simp, HSTART.out, HC6.out⟩
      case round =>
        obtain ⟨i, hi, rfl, rfl, h1, h2⟩ := hrel
        have H1 := Lib.hid h1
        have H2 := Lib.hid h2
        clear h1 h2
        by_cases hlt : i < 8
        · have e2 : (i : Int) < 8 := by omega
          have hx9 : N / 2 ^ (8 * i) ≤ 1125899906809856 := Nat.le_trans (Nat.div_le_self _ _) hN9
          have hnx : N / 2 ^ (8 * (i + 1)) = N / 2 ^ (8 * i) / 256 := by
            rw [Nat.div_div_eq_div_mul, show (256 : Nat) = 2 ^ 8 from rfl, ← Nat.pow_add]
            congr 1
          obtain ⟨x, hx⟩ : ∃ x, x = N / 2 ^ (8 * i) := ⟨_, rfl⟩
          rw [← hx] at hx9 hnx ⊢
          have hcell : wr.cell? ⟨z3, 128 - 1 - i, none⟩ = some (.int .u8 (((endWin rp N 128 i).getD (128 - 1 - i) 0).toNat : Int)) := by
            rw [H1.out.cell]
            exact u8s_get _ _ (by rw [endWin_len _ _ _ _ (by omega) HTO9.out (by decide)]; omega)
          have hfz : wr.frozen? ⟨z3, 128 - 1 - i, none⟩ = false := H1.out.frozen _
          have hst := H1.out.set_ (128 - 1 - i) (.int .u8 ((UInt8.ofNat (N / 2 ^ (8 * i))).toNat : Int))
          rw [u8s_set, endWin_set _ _ _ _ hlt HTO9.out, ← hx] at hst
          have hv : ((UInt8.ofNat x).toNat : Int) = (x : Int) % 256 := by simp
          rw [hv] at hst
          have hch := H2.out.setCell (p := ⟨z3, 128 - 1 - i, none⟩) (fun _ => rfl) (.int .u8 ((x : Int) % 256))
          rw [show 128 - 1 - i = 127 - i by omega] at hcell hfz hst hch
          have HST := Lib.hid hst
          have HCH := Lib.hid hch
          have HNX := Lib.hid hnx
          have e3 : (0 : Int) ≤ 127 - i := by omega
          have e4 : ((127 : Int) - (i : Int)).toNat = 127 - i := by omega
          clear hst hch hnx hx hv
          go_wp2_with fail
          exact ⟨⟨i + 1, by omega, by go_num, by rw [HNX.out]; rfl, HST.out, HCH.out⟩, by simp [intOf]; omega⟩
        · have e2 : (8 : Int) ≤ i := by omega
          obtain rfl : i = 8 := by omega
          have htl : ((endWin rp N 128 8).take 128).length = 128 := by rw [List.length_take, endWin_len _ _ _ _ (by decide) HTO9.out (by decide)]; decide
          have hrd : Rd wr (some ⟨z3, 0, none⟩) (bs ((endWin rp N 128 8).take 128)) := by
            rw [← bs_take]
            exact (rd_u8s H1.out).take 128
          have HRD := Lib.hid hrd
          have HTL := Lib.hid htl
          have HSS : Hid (Blk wr (z1 + 1) 173 (u32s (mixSha m initSha (p.take W)).l)) := Lib.hid (HS3.out.chg H2.out (fun h => by omega))
          have HKS : Hid (Blk wr z1 117 (u32s kSha)) := Lib.hid (HK3.out.chg H2.out (fun h => by omega))
          have HRS : Hid (Blk wr z0 26 (u8s (nots 32))) := Lib.hid (HRES3.out.chg H2.out (fun h => by omega))
          have HFIN : Hid (outSha (mixSha (128 / 64) (mixSha m initSha (p.take W)) ((endWin rp N 128 8).take 128)) = sha p) := Lib.hid (by
            rw [endWin_take _ _ _ HTO9.out]
            have h := sha_parts p (p.take W) rp m 128 HSPLIT.out HQLEN.out (by have := HXL.out; omega) (if_neg (by have := HXL.out; omega)).symm
            rw [HN.out, ← HNN.out] at h
            exact h)
          clear hrd htl
          go_wp2_with fail
          refine (mix_calls (z1 + 1) z1 _ 128 128 (128 / 64) ((endWin rp N 128 8).take 128) _ _ (mixSha_ok initSha_ok _ _) HSS.out HKS.out HRD.out HTL.out (by decide) (by decide) (fun _ ad e => by injection e with e; subst e; show ¬ z3 = z1 + 1; omega) (by omega)).mono ?_
          rintro e w7 ⟨rfl, h7, hc7⟩
          have HR7 : Hid (Blk w7 z0 26 (u8s (nots 32))) := Lib.hid (HRS.out.chg hc7.out (fun h => by omega))
          have hlen1 : (u8s (sha p)).size = 32 := by rw [u8s_size, sha_len]
          have HLEN1 := Lib.hid hlen1
          clear hlen1
          go_wp2_with fail
          refine (hash_calls (z1 + 1) _ _ (mixSha_ok (mixSha_ok initSha_ok _ _) _ _) h7.out).mono ?_
          rintro e w8 ⟨rfl, hc8⟩
          rw [HFIN.out]
          have HR8 : Hid (Blk w8 z0 26 (u8s (nots 32))) := Lib.hid (HR7.out.chg hc8.out (fun h => h))
          go_wp2_with (refine wpList_store_row rfl 26 _ _ rfl z0 _ rfl rfl 26 _ HR8.out (by rw [HLEN1.out]; exact hi25.out) (by rw [HLEN1.out]; rfl) (u8s_one _) ?_)
          refine bodyPost_ret (v := .agg (u8s (sha p))) (results_cell_row rfl _ _ z0 26 _ (0, 0) _ rfl (HR8.out.row_ _) Tryz.underlying26 rfl (by rw [HLEN1.out]; exact hi25.out)) rfl ⟨rfl, ?_⟩
          have hz0 := HZ0.out
          have hw4 := HC3.out.size
          exact ((((HC3.out.step H2.out (fun k hk => by omega)).step hc7.out (fun k hk => by omega)).step hc8.out (fun _ h => h.elim)).setRow (fun h => by omega) _)
theorem dSum_calls (A : Option Addr) (n c : Nat) (p : List UInt8) (w : World) (hr : Rd w A (bs p)) (hn : p.length = n) (hc : n ≤ c) (hn9 : n ≤ 1000000000) :
    Calls Tryz.prog 82 #[.slice A n c] w fun e w' => e = .returned (.agg (u8s (sha p))) ∧ Hid (Chg nowhere w w') := dSumW_calls A n c p w hr hn hc (by omega)
end Go.Proofs.YtmnapacibpnodaaGreat
end
