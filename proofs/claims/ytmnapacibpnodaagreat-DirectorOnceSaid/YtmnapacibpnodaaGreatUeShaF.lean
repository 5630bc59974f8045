/- ShaF -/
import Derived.Test.YtmnapacibpnodaaGreatUeDig
open Go Go.RowKit
namespace Go.Proofs.YtmnapacibpnodaaGreat
/-- k of n, n reckoned first -/
def fo {α : Type} (n : Nat) (k : Nat → α) : α := Nat.rec (motive := fun _ => α) (k 0) (fun m _ => k (Nat.succ m)) n
theorem fo_eq {α : Type} (n : Nat) (k : Nat → α) : fo n k = k n := by cases n <;> rfl
def fadd (x y : Nat) : Nat := Nat.mod (Nat.add x y) 4294967296
def fS1 (e : Nat) : Nat := Nat.xor (Nat.xor (Nat.add (Nat.div e 64) (Nat.mul (Nat.mod e 64) 67108864)) (Nat.add (Nat.div e 2048) (Nat.mul (Nat.mod e 2048) 2097152))) (Nat.add (Nat.div e 33554432) (Nat.mul (Nat.mod e 33554432) 128))
def fS0 (a : Nat) : Nat := Nat.xor (Nat.xor (Nat.add (Nat.div a 4) (Nat.mul (Nat.mod a 4) 1073741824)) (Nat.add (Nat.div a 8192) (Nat.mul (Nat.mod a 8192) 524288))) (Nat.add (Nat.div a 4194304) (Nat.mul (Nat.mod a 4194304) 1024))
def fs0 (x : Nat) : Nat := Nat.xor (Nat.xor (Nat.add (Nat.div x 128) (Nat.mul (Nat.mod x 128) 33554432)) (Nat.add (Nat.div x 262144) (Nat.mul (Nat.mod x 262144) 16384))) (Nat.div x 8)
def fs1 (x : Nat) : Nat := Nat.xor (Nat.xor (Nat.add (Nat.div x 131072) (Nat.mul (Nat.mod x 131072) 32768)) (Nat.add (Nat.div x 524288) (Nat.mul (Nat.mod x 524288) 8192))) (Nat.div x 1024)
def fch (e f g : Nat) : Nat := Nat.xor (Nat.land e f) (Nat.land (Nat.sub 4294967295 e) g)
def fmaj (a b c : Nat) : Nat := Nat.xor (Nat.xor (Nat.land a b) (Nat.land a c)) (Nat.land b c)
theorem fadd_eq (x y : Nat) : fadd x y = add32 x y := rfl
theorem fS1_eq (x : Nat) : fS1 x = bsig1 x := rfl
theorem fS0_eq (x : Nat) : fS0 x = bsig0 x := rfl
theorem fs0_eq (x : Nat) : fs0 x = ssig0 x := rfl
theorem fs1_eq (x : Nat) : fs1 x = ssig1 x := rfl
theorem fch_eq (e f g : Nat) : fch e f g = ch32 e f g := rfl
theorem fmaj_eq (a b c : Nat) : fmaj a b c = maj32 a b c := rfl
noncomputable def fturn {β : Type} (ks : List Nat) : Nat → Nat → Nat → Nat → Nat → Nat → Nat → Nat → Nat → Nat → Nat → Nat → Nat → Nat → Nat → Nat → Nat → Nat → Nat → Nat → Nat → Nat → Nat → Nat → (Nat → Nat → Nat → Nat → Nat → Nat → Nat → Nat → β) → β :=
  List.rec (motive := fun _ => Nat → Nat → Nat → Nat → Nat → Nat → Nat → Nat → Nat → Nat → Nat → Nat → Nat → Nat → Nat → Nat → Nat → Nat → Nat → Nat → Nat → Nat → Nat → Nat → (Nat → Nat → Nat → Nat → Nat → Nat → Nat → Nat → β) → β) (fun a b c d e f g h _ _ _ _ _ _ _ _ _ _ _ _ _ _ _ _ k => k a b c d e f g h)
    (fun kk _ ih a b c d e f g h w0 w1 w2 w3 w4 w5 w6 w7 w8 w9 w10 w11 w12 w13 w14 w15 k => fo (fadd (fadd (fadd (fadd h (fS1 e)) (fch e f g)) kk) w0) fun t1 => fo (fadd d t1) fun e1 => fo (fadd t1 (fadd (fS0 a) (fmaj a b c))) fun a1 => fo (fadd (fadd (fadd w0 (fs0 w1)) w9) (fs1 w14)) fun w16 => ih a1 a b c e1 e f g w1 w2 w3 w4 w5 w6 w7 w8 w9 w10 w11 w12 w13 w14 w15 w16 k) ks
theorem fturn_nil {β : Type} (a b c d e f g h w0 w1 w2 w3 w4 w5 w6 w7 w8 w9 w10 w11 w12 w13 w14 w15 : Nat) (k : Nat → Nat → Nat → Nat → Nat → Nat → Nat → Nat → β) : fturn [] a b c d e f g h w0 w1 w2 w3 w4 w5 w6 w7 w8 w9 w10 w11 w12 w13 w14 w15 k = k a b c d e f g h := rfl
theorem fturn_step {β : Type} (kk : Nat) (ks : List Nat) (a b c d e f g h w0 w1 w2 w3 w4 w5 w6 w7 w8 w9 w10 w11 w12 w13 w14 w15 : Nat) (k : Nat → Nat → Nat → Nat → Nat → Nat → Nat → Nat → β) : fturn (kk :: ks) a b c d e f g h w0 w1 w2 w3 w4 w5 w6 w7 w8 w9 w10 w11 w12 w13 w14 w15 k = fo (fadd (fadd (fadd (fadd h (fS1 e)) (fch e f g)) kk) w0) fun t1 => fo (fadd d t1) fun e1 => fo (fadd t1 (fadd (fS0 a) (fmaj a b c))) fun a1 => fo (fadd (fadd (fadd w0 (fs0 w1)) w9) (fs1 w14)) fun w16 => fturn ks a1 a b c e1 e f g w1 w2 w3 w4 w5 w6 w7 w8 w9 w10 w11 w12 w13 w14 w15 w16 k := rfl
theorem fturn_cons {β : Type} (kk : Nat) (ks : List Nat) (v : V8) (w0 w1 w2 w3 w4 w5 w6 w7 w8 w9 w10 w11 w12 w13 w14 w15 : Nat) (k : Nat → Nat → Nat → Nat → Nat → Nat → Nat → Nat → β) :
    fturn (kk :: ks) v.a v.b v.c v.d v.e v.f v.g v.h w0 w1 w2 w3 w4 w5 w6 w7 w8 w9 w10 w11 w12 w13 w14 w15 k = fturn ks (v.round kk w0).a (v.round kk w0).b (v.round kk w0).c (v.round kk w0).d (v.round kk w0).e (v.round kk w0).f (v.round kk w0).g (v.round kk w0).h w1 w2 w3 w4 w5 w6 w7 w8 w9 w10 w11 w12 w13 w14 w15 (add32 (add32 (add32 w0 (ssig0 w1)) w9) (ssig1 w14)) k := by
  rw [fturn_step, fo_eq, fo_eq, fo_eq, fo_eq]
  simp only [fadd_eq, fS1_eq, fS0_eq, fs0_eq, fs1_eq, fch_eq, fmaj_eq]
  rfl
/-- the words of a block and those that follow from them -/
def schedW (p : List UInt8) (n : Nat) : Nat := (sched p n).getD n 0
theorem sched_pre (p : List UInt8) (n j : Nat) (h : j < 16 + n) : ∀ m, (sched p (n + m)).getD j 0 = (sched p n).getD j 0
  | 0 => rfl
  | m + 1 => by
    rw [← sched_pre p n j h m]
    show (sched p (n + m) ++ [_]).getD j 0 = _
    rw [List.getD_eq_getElem?_getD, List.getElem?_append_left (by rw [sched_len]; omega), ← List.getD_eq_getElem?_getD]
theorem sched_at (p : List UInt8) (n j : Nat) (h : j < 16 + n) : (sched p n).getD j 0 = schedW p j := by
  unfold schedW
  rcases Nat.le_total n j with h1 | h1
  · obtain ⟨m, rfl⟩ := Nat.exists_eq_add_of_le h1
    exact (sched_pre p n (n + m) h m).symm
  · obtain ⟨m, rfl⟩ := Nat.exists_eq_add_of_le h1
    exact sched_pre p j j (by omega) m
theorem sched_succ (p : List UInt8) (i : Nat) : sched p (i + 1) = sched p i ++ [nextW (sched p i) (16 + i)] := rfl
theorem schedW_next (p : List UInt8) (i : Nat) : schedW p (i + 16) = add32 (add32 (add32 (schedW p i) (ssig0 (schedW p (i + 1)))) (schedW p (i + 9))) (ssig1 (schedW p (i + 14))) := by
  rw [← sched_at p (i + 1) (i + 16) (by omega), sched_succ, List.getD_eq_getElem?_getD, List.getElem?_append_right (by rw [sched_len]; omega), sched_len, show i + 16 - (16 + i) = 0 by omega, List.getElem?_cons_zero, Option.getD_some]
  unfold nextW
  rw [show 16 + i - 16 = i by omega, show 16 + i - 15 = i + 1 by omega, show 16 + i - 7 = i + 9 by omega, show 16 + i - 2 = i + 14 by omega, sched_at p i i (by omega), sched_at p i (i + 1) (by omega), sched_at p i (i + 9) (by omega), sched_at p i (i + 14) (by omega)]
theorem schedW_first (p : List UInt8) (j : Nat) (h : j < 16) : schedW p j = word4 p j := by
  rw [← sched_at p 0 j (by omega)]
  show (first16 p 16).getD j 0 = _
  unfold first16
  rw [List.getD_eq_getElem?_getD, List.getElem?_map, List.getElem?_range h]
  rfl
theorem turn_succ (ks ws : List Nat) (i : Nat) (v : V8) : V8.turn ks ws (i + 1) v = (V8.turn ks ws i v).round (ks.getD i 0) (ws.getD i 0) := rfl
theorem fturn_all {β : Type} (ks : List Nat) (hks : ks.length = 64) (p : List UInt8) (v : V8) (k : Nat → Nat → Nat → Nat → Nat → Nat → Nat → Nat → β) : ∀ (n i : Nat), i + n = 64 →
    fturn (ks.drop i) (V8.turn ks (sched p 48) i v).a (V8.turn ks (sched p 48) i v).b (V8.turn ks (sched p 48) i v).c (V8.turn ks (sched p 48) i v).d (V8.turn ks (sched p 48) i v).e (V8.turn ks (sched p 48) i v).f (V8.turn ks (sched p 48) i v).g (V8.turn ks (sched p 48) i v).h (schedW p i) (schedW p (i + 1)) (schedW p (i + 2)) (schedW p (i + 3)) (schedW p (i + 4)) (schedW p (i + 5)) (schedW p (i + 6)) (schedW p (i + 7)) (schedW p (i + 8)) (schedW p (i + 9)) (schedW p (i + 10)) (schedW p (i + 11)) (schedW p (i + 12)) (schedW p (i + 13)) (schedW p (i + 14)) (schedW p (i + 15)) k
      = k (V8.turn ks (sched p 48) 64 v).a (V8.turn ks (sched p 48) 64 v).b (V8.turn ks (sched p 48) 64 v).c (V8.turn ks (sched p 48) 64 v).d (V8.turn ks (sched p 48) 64 v).e (V8.turn ks (sched p 48) 64 v).f (V8.turn ks (sched p 48) 64 v).g (V8.turn ks (sched p 48) 64 v).h
  | 0, i, h => by
    obtain rfl : i = 64 := by omega
    rw [List.drop_of_length_le (by rw [hks]; exact Nat.le_refl _), fturn_nil]
  | n + 1, i, h => by
    have hi : i < ks.length := by rw [hks]; omega
    have hd : ks.drop i = ks.getD i 0 :: ks.drop (i + 1) := by
      rw [List.drop_eq_getElem_cons hi, List.getD_eq_getElem?_getD, List.getElem?_eq_getElem hi, Option.getD_some]
    have ih := fturn_all ks hks p v k n (i + 1) (by omega)
    have hv := turn_succ ks (sched p 48) i v
    rw [sched_at p 48 i (by omega)] at hv
    rw [hv] at ih
    rw [hd, fturn_cons, ← schedW_next]
    exact ih
/-- one block -/
noncomputable def fblk {β : Type} (a0 b0 c0 d0 e0 f0 g0 h0 w0 w1 w2 w3 w4 w5 w6 w7 w8 w9 w10 w11 w12 w13 w14 w15 : Nat) (k : Nat → Nat → Nat → Nat → Nat → Nat → Nat → Nat → β) : β := fturn kSha a0 b0 c0 d0 e0 f0 g0 h0 w0 w1 w2 w3 w4 w5 w6 w7 w8 w9 w10 w11 w12 w13 w14 w15 fun a b c d e f g h => fo (fadd a0 a) fun a1 => fo (fadd b0 b) fun b1 => fo (fadd c0 c) fun c1 => fo (fadd d0 d) fun d1 => fo (fadd e0 e) fun e1 => fo (fadd f0 f) fun f1 => fo (fadd g0 g) fun g1 => fo (fadd h0 h) fun h1 => k a1 b1 c1 d1 e1 f1 g1 h1
theorem fblk_step {β : Type} (a0 b0 c0 d0 e0 f0 g0 h0 w0 w1 w2 w3 w4 w5 w6 w7 w8 w9 w10 w11 w12 w13 w14 w15 : Nat) (k : Nat → Nat → Nat → Nat → Nat → Nat → Nat → Nat → β) : fblk a0 b0 c0 d0 e0 f0 g0 h0 w0 w1 w2 w3 w4 w5 w6 w7 w8 w9 w10 w11 w12 w13 w14 w15 k = fturn kSha a0 b0 c0 d0 e0 f0 g0 h0 w0 w1 w2 w3 w4 w5 w6 w7 w8 w9 w10 w11 w12 w13 w14 w15 fun a b c d e f g h => k (fadd a0 a) (fadd b0 b) (fadd c0 c) (fadd d0 d) (fadd e0 e) (fadd f0 f) (fadd g0 g) (fadd h0 h) := by
  unfold fblk
  simp only [fo_eq]
theorem add_a (v u : V8) : (v.add u).a = fadd v.a u.a := rfl
theorem add_b (v u : V8) : (v.add u).b = fadd v.b u.b := rfl
theorem add_c (v u : V8) : (v.add u).c = fadd v.c u.c := rfl
theorem add_d (v u : V8) : (v.add u).d = fadd v.d u.d := rfl
theorem add_e (v u : V8) : (v.add u).e = fadd v.e u.e := rfl
theorem add_f (v u : V8) : (v.add u).f = fadd v.f u.f := rfl
theorem add_g (v u : V8) : (v.add u).g = fadd v.g u.g := rfl
theorem add_h (v u : V8) : (v.add u).h = fadd v.h u.h := rfl
theorem fblk_eq {β : Type} (p : List UInt8) (v : V8) (k : Nat → Nat → Nat → Nat → Nat → Nat → Nat → Nat → β) : fblk v.a v.b v.c v.d v.e v.f v.g v.h (word4 p 0) (word4 p 1) (word4 p 2) (word4 p 3) (word4 p 4) (word4 p 5) (word4 p 6) (word4 p 7) (word4 p 8) (word4 p 9) (word4 p 10) (word4 p 11) (word4 p 12) (word4 p 13) (word4 p 14) (word4 p 15) k = k (blkSha v p).a (blkSha v p).b (blkSha v p).c (blkSha v p).d (blkSha v p).e (blkSha v p).f (blkSha v p).g (blkSha v p).h := by
  have h := fturn_all kSha kSha_len p v (fun a b c d e f g h => k (fadd v.a a) (fadd v.b b) (fadd v.c c) (fadd v.d d) (fadd v.e e) (fadd v.f f) (fadd v.g g) (fadd v.h h)) 64 0 (Nat.zero_add 64)
  have hz : V8.turn kSha (sched p 48) 0 v = v := rfl
  have hb : blkSha v p = v.add (V8.turn kSha (sched p 48) 64 v) := rfl
  rw [hz, List.drop_zero] at h
  rw [hb]
  generalize V8.turn kSha (sched p 48) 64 v = u at h ⊢
  rw [fblk_step, add_a, add_b, add_c, add_d, add_e, add_f, add_g, add_h, ← schedW_first p 0 (by decide), ← schedW_first p 1 (by decide), ← schedW_first p 2 (by decide), ← schedW_first p 3 (by decide), ← schedW_first p 4 (by decide), ← schedW_first p 5 (by decide), ← schedW_first p 6 (by decide), ← schedW_first p 7 (by decide), ← schedW_first p 8 (by decide), ← schedW_first p 9 (by decide), ← schedW_first p 10 (by decide), ← schedW_first p 11 (by decide), ← schedW_first p 12 (by decide), ← schedW_first p 13 (by decide), ← schedW_first p 14 (by decide), ← schedW_first p 15 (by decide)]
  simp only [Nat.zero_add] at h
  exact h
end Go.Proofs.YtmnapacibpnodaaGreat
