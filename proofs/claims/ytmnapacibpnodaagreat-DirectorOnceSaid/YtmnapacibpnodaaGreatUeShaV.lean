/- ShaV -/
import Derived.Test.YtmnapacibpnodaaGreatUeShaF
open Go Go.RowKit
namespace Go.Proofs.YtmnapacibpnodaaGreat
/-- bytes as one number, the highest first -/
def val (p : List UInt8) : Nat := p.foldl (fun a b => a * 256 + b.toNat) 0
theorem val_from (p : List UInt8) : ∀ a : Nat, p.foldl (fun a b => a * 256 + b.toNat) a = a * 256 ^ p.length + val p := by
  induction p with
  | nil => intro a; simp [val]
  | cons b p ih =>
    intro a
    have h1 := ih (a * 256 + b.toNat)
    have h2 := ih (0 * 256 + b.toNat)
    show p.foldl _ (a * 256 + b.toNat) = a * 256 ^ (p.length + 1) + p.foldl _ (0 * 256 + b.toNat)
    rw [h1, h2, Nat.pow_succ, Nat.add_mul, Nat.zero_mul, Nat.zero_add, Nat.mul_assoc, Nat.mul_comm 256, Nat.add_assoc]
theorem val_app (p q : List UInt8) : val (p ++ q) = val p * 256 ^ q.length + val q := by
  unfold val
  rw [List.foldl_append]
  exact val_from q _
theorem val_cons (b : UInt8) (p : List UInt8) : val (b :: p) = b.toNat * 256 ^ p.length + val p := by
  rw [show b :: p = [b] ++ p from rfl, val_app]
  simp [val]
theorem val_nil : val [] = 0 := rfl
theorem val_lt (p : List UInt8) : val p < 256 ^ p.length := by
  induction p with
  | nil => simp [val]
  | cons b p ih =>
    have hb := b.toNat_lt
    have h1 : (b.toNat + 1) * 256 ^ p.length ≤ 256 * 256 ^ p.length := Nat.mul_le_mul_right _ (by omega)
    rw [val_cons, List.length_cons, Nat.pow_succ, Nat.mul_comm (256 ^ p.length)]
    rw [Nat.add_mul, Nat.one_mul] at h1
    omega
theorem val_drop (p q : List UInt8) : val (p ++ q) % 256 ^ q.length = val q := by
  rw [val_app, Nat.add_comm, Nat.add_mul_mod_self_right, Nat.mod_eq_of_lt (val_lt q)]
theorem val_take (p q : List UInt8) : val (p ++ q) / 256 ^ q.length = val p := by
  have h0 : 0 < 256 ^ q.length := Nat.pow_pos (by decide)
  rw [val_app, Nat.mul_comm, Nat.mul_add_div h0, Nat.div_eq_of_lt (val_lt q), Nat.add_zero]
theorem val_mid (p : List UInt8) (a l c : Nat) (h : p.length = a + l + c) : val ((p.drop a).take l) = val p / 256 ^ c % 256 ^ l := by
  have e1 : p = (p.take (a + l)) ++ p.drop (a + l) := (List.take_append_drop _ _).symm
  have e2 : p.take (a + l) = p.take a ++ (p.drop a).take l := by rw [List.take_add]
  have l1 : (p.drop (a + l)).length = c := by rw [List.length_drop]; omega
  have l2 : ((p.drop a).take l).length = l := by rw [List.length_take, List.length_drop]; omega
  have h1 : val p / 256 ^ c = val (p.take (a + l)) := by
    conv => lhs; rw [e1]
    rw [← l1]
    exact val_take _ _
  have h3 := val_drop (p.take a) ((p.drop a).take l)
  rw [l2] at h3
  rw [h1, e2, h3]
theorem val_four (x y z u : UInt8) : val [x, y, z, u] = x.toNat * 16777216 + y.toNat * 65536 + z.toNat * 256 + u.toNat := by
  simp only [val, List.foldl]
  omega
theorem four_of (p : List UInt8) (j : Nat) (h : 4 * j + 4 ≤ p.length) : (p.drop (4 * j)).take 4 = [p.getD (4 * j) 0, p.getD (4 * j + 1) 0, p.getD (4 * j + 2) 0, p.getD (4 * j + 3) 0] := by
  apply List.ext_getElem?
  intro i
  rw [List.getElem?_take, List.getElem?_drop]
  rcases i with _ | _ | _ | _ | i
  · simp [List.getD_eq_getElem?_getD, show 4 * j < p.length by omega]
  · simp [List.getD_eq_getElem?_getD, show 4 * j + 1 < p.length by omega]
  · simp [List.getD_eq_getElem?_getD, show 4 * j + 2 < p.length by omega]
  · simp [List.getD_eq_getElem?_getD, show 4 * j + 3 < p.length by omega]
  · simp
    omega
/-- a word of a block that is one number -/
def fword (q s : Nat) : Nat := Nat.mod (Nat.shiftRight q s) 4294967296
theorem fword_eq (p : List UInt8) (h : p.length = 64) (j s : Nat) (hs : s + 32 * j = 480) : fword (val p) s = word4 p j := by
  have h1 := val_mid p (4 * j) 4 (s / 8) (by omega)
  rw [four_of p j (by omega), val_four] at h1
  have h2 : (256 : Nat) ^ (s / 8) = 2 ^ s := by
    rw [show (256 : Nat) = 2 ^ 8 from rfl, ← Nat.pow_mul]
    congr 1
    omega
  show Nat.mod (val p >>> s) 4294967296 = _
  rw [Nat.shiftRight_eq_div_pow, ← h2]
  exact h1.symm
noncomputable def mixK {β : Type} (n : Nat) : Nat → Nat → Nat → Nat → Nat → Nat → Nat → Nat → Nat → (Nat → Nat → Nat → Nat → Nat → Nat → Nat → Nat → β) → β :=
  Nat.rec (motive := fun _ => Nat → Nat → Nat → Nat → Nat → Nat → Nat → Nat → Nat → (Nat → Nat → Nat → Nat → Nat → Nat → Nat → Nat → β) → β) (fun a b c d e f g h _ k => k a b c d e f g h)
    (fun n ih a b c d e f g h N k => fo (Nat.shiftRight N (Nat.mul 512 n)) fun q => fo (Nat.mod N (Nat.pow 2 (Nat.mul 512 n))) fun r => fo (fword q 480) fun w0 => fo (fword q 448) fun w1 => fo (fword q 416) fun w2 => fo (fword q 384) fun w3 => fo (fword q 352) fun w4 => fo (fword q 320) fun w5 => fo (fword q 288) fun w6 => fo (fword q 256) fun w7 => fo (fword q 224) fun w8 => fo (fword q 192) fun w9 => fo (fword q 160) fun w10 => fo (fword q 128) fun w11 => fo (fword q 96) fun w12 => fo (fword q 64) fun w13 => fo (fword q 32) fun w14 => fo (fword q 0) fun w15 => fblk a b c d e f g h w0 w1 w2 w3 w4 w5 w6 w7 w8 w9 w10 w11 w12 w13 w14 w15 fun a1 b1 c1 d1 e1 f1 g1 h1 => ih a1 b1 c1 d1 e1 f1 g1 h1 r k) n
theorem mixK_zero {β : Type} (a b c d e f g h N : Nat) (k : Nat → Nat → Nat → Nat → Nat → Nat → Nat → Nat → β) : mixK 0 a b c d e f g h N k = k a b c d e f g h := rfl
theorem mixK_succ {β : Type} (n a b c d e f g h N : Nat) (k : Nat → Nat → Nat → Nat → Nat → Nat → Nat → Nat → β) : mixK (n + 1) a b c d e f g h N k = fo (Nat.shiftRight N (Nat.mul 512 n)) fun q => fo (Nat.mod N (Nat.pow 2 (Nat.mul 512 n))) fun r => fo (fword q 480) fun w0 => fo (fword q 448) fun w1 => fo (fword q 416) fun w2 => fo (fword q 384) fun w3 => fo (fword q 352) fun w4 => fo (fword q 320) fun w5 => fo (fword q 288) fun w6 => fo (fword q 256) fun w7 => fo (fword q 224) fun w8 => fo (fword q 192) fun w9 => fo (fword q 160) fun w10 => fo (fword q 128) fun w11 => fo (fword q 96) fun w12 => fo (fword q 64) fun w13 => fo (fword q 32) fun w14 => fo (fword q 0) fun w15 => fblk a b c d e f g h w0 w1 w2 w3 w4 w5 w6 w7 w8 w9 w10 w11 w12 w13 w14 w15 fun a1 b1 c1 d1 e1 f1 g1 h1 => mixK n a1 b1 c1 d1 e1 f1 g1 h1 r k := rfl
theorem pow512 (n : Nat) : (256 : Nat) ^ (64 * n) = 2 ^ (512 * n) := by
  rw [show (256 : Nat) = 2 ^ 8 from rfl, ← Nat.pow_mul]
  congr 1
  omega
theorem mixK_eq {β : Type} (k : Nat → Nat → Nat → Nat → Nat → Nat → Nat → Nat → β) : ∀ (n : Nat) (v : V8) (p : List UInt8), p.length = 64 * n → mixK n v.a v.b v.c v.d v.e v.f v.g v.h (val p) k = k (mixSha n v p).a (mixSha n v p).b (mixSha n v p).c (mixSha n v p).d (mixSha n v p).e (mixSha n v p).f (mixSha n v p).g (mixSha n v p).h
  | 0, v, p, _ => mixK_zero _ _ _ _ _ _ _ _ _ _
  | n + 1, v, p, h => by
    have l1 : (p.take 64).length = 64 := by rw [List.length_take]; omega
    have l2 : (p.drop 64).length = 64 * n := by rw [List.length_drop]; omega
    have e : p = p.take 64 ++ p.drop 64 := (List.take_append_drop _ _).symm
    have h1 : Nat.shiftRight (val p) (Nat.mul 512 n) = val (p.take 64) := by
      show val p >>> (512 * n) = _
      rw [Nat.shiftRight_eq_div_pow, ← pow512, ← l2]
      conv => lhs; rw [e]
      rw [List.drop_left' l1]
      exact val_take _ _
    have h2 : Nat.mod (val p) (Nat.pow 2 (Nat.mul 512 n)) = val (p.drop 64) := by
      show val p % 2 ^ (512 * n) = _
      rw [← pow512, ← l2]
      conv => lhs; rw [e]
      rw [List.drop_left' l1]
      exact val_drop _ _
    rw [mixK_succ, fo_eq, fo_eq, h1, h2]
    simp only [fo_eq]
    rw [fword_eq _ l1 0 480 (by decide), fword_eq _ l1 1 448 (by decide), fword_eq _ l1 2 416 (by decide), fword_eq _ l1 3 384 (by decide), fword_eq _ l1 4 352 (by decide), fword_eq _ l1 5 320 (by decide), fword_eq _ l1 6 288 (by decide), fword_eq _ l1 7 256 (by decide), fword_eq _ l1 8 224 (by decide), fword_eq _ l1 9 192 (by decide), fword_eq _ l1 10 160 (by decide), fword_eq _ l1 11 128 (by decide), fword_eq _ l1 12 96 (by decide), fword_eq _ l1 13 64 (by decide), fword_eq _ l1 14 32 (by decide), fword_eq _ l1 15 0 (by decide), fblk_eq]
    exact mixK_eq k n (blkSha v (p.take 64)) (p.drop 64) l2
theorem val_noughts (n : Nat) : val (noughtBytes n) = 0 := by
  induction n with
  | zero => rfl
  | succ n ih =>
    rw [show noughtBytes (n + 1) = (0 : UInt8) :: noughtBytes n from rfl, val_cons, ih]
    simp
theorem be64_len' (n : Nat) : (be64 n).length = 8 := by simp [be64]
/-- the number of the padded bytes -/
def padV (N L : Nat) : Nat := (N * 256 + 128) * 256 ^ padN L * 18446744073709551616 + 8 * L
theorem padV_eq (p : List UInt8) (L : Nat) (hL : p.length = L) (hb : val (be64 (8 * L)) = 8 * L) : val (padded p) = padV (val p) L := by
  unfold padded padV
  rw [val_app, val_app, val_app, hL, hb, be64_len', val_noughts, Nat.add_zero, show (noughtBytes (padN L)).length = padN L by simp [noughtBytes]]
  rfl
def be4 (x : Nat) : List UInt8 := [UInt8.ofNat (x / 2 ^ 24), UInt8.ofNat (x / 2 ^ 16), UInt8.ofNat (x / 2 ^ 8), UInt8.ofNat (x / 2 ^ 0)]
theorem val_be4 (x : Nat) (h : x < 4294967296) : val (be4 x) = x := by
  unfold be4
  rw [val_four]
  simp only [UInt8.toNat_ofNat']
  omega
theorem outSha_be4 (v : V8) : outSha v = be4 v.a ++ (be4 v.b ++ (be4 v.c ++ (be4 v.d ++ (be4 v.e ++ (be4 v.f ++ (be4 v.g ++ be4 v.h)))))) := rfl
def packV (a b c d e f g h : Nat) : Nat := Nat.add (Nat.mul (Nat.add (Nat.mul (Nat.add (Nat.mul (Nat.add (Nat.mul (Nat.add (Nat.mul (Nat.add (Nat.mul (Nat.add (Nat.mul a 4294967296) b) 4294967296) c) 4294967296) d) 4294967296) e) 4294967296) f) 4294967296) g) 4294967296) h
theorem be4_len (x : Nat) : (be4 x).length = 4 := rfl
theorem val_out (v : V8) (h : v.ok) : val (outSha v) = packV v.a v.b v.c v.d v.e v.f v.g v.h := by
  obtain ⟨h1, h2, h3, h4, h5, h6, h7, h8⟩ := h
  rw [outSha_be4]
  simp only [val_app, List.length_append, be4_len, val_be4 _ h1, val_be4 _ h2, val_be4 _ h3, val_be4 _ h4, val_be4 _ h5, val_be4 _ h6, val_be4 _ h7, val_be4 _ h8]
  show _ = ((((((v.a * 4294967296 + v.b) * 4294967296 + v.c) * 4294967296 + v.d) * 4294967296 + v.e) * 4294967296 + v.f) * 4294967296 + v.g) * 4294967296 + v.h
  omega
/-- the digest, as a number, of L bytes that are the number N -/
noncomputable def shaK {β : Type} (N L : Nat) (k : Nat → β) : β := mixK ((L + 72) / 64) 1779033703 3144134277 1013904242 2773480762 1359893119 2600822924 528734635 1541459225 (padV N L) fun a b c d e f g h => fo (packV a b c d e f g h) k
theorem shaK_eq {β : Type} (p : List UInt8) (L : Nat) (hL : p.length = L) (hb : val (be64 (8 * L)) = 8 * L) (k : Nat → β) : shaK (val p) L k = k (val (sha p)) := by
  unfold shaK
  rw [← padV_eq p L hL hb]
  have h1 := mixK_eq (fun a b c d e f g h => fo (packV a b c d e f g h) k) ((L + 72) / 64) initSha (padded p) (by rw [padded_len, hL])
  refine h1.trans ?_
  rw [fo_eq]
  unfold sha
  rw [hL, val_out _ (mixSha_ok initSha_ok _ _)]
end Go.Proofs.YtmnapacibpnodaaGreat
