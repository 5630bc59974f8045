/- The words of a block: digest.words. -/
import Derived.Test.YtmijlojjkgeplaaDgR
import Derived.Test.YtmijlojjkgeplaaBase
import Derived.StillTailTactics
open Go Go.RowKit
namespace Go.Proofs.Ytmijlojjkgeplaa
def pad64 (l : List Nat) : List Nat := l ++ List.replicate (64 - l.length) 0
theorem pad64_len (l : List Nat) (h : l.length ≤ 64) : (pad64 l).length = 64 := by simp [pad64]; omega
theorem pad64_set (l : List Nat) (x : Nat) (h : l.length < 64) : (pad64 l).set l.length x = pad64 (l ++ [x]) := by
  unfold pad64
  rw [List.set_append_right _ _ (Nat.le_refl _), Nat.sub_self, show 64 - l.length = (64 - (l ++ [x]).length) + 1 by simp; omega, List.replicate_succ, List.set_cons_zero]
  simp
theorem pad64_get (l : List Nat) (i : Nat) (h : i < l.length) : (pad64 l).getD i 0 = l.getD i 0 := by
  simp [pad64, List.getD_eq_getElem?_getD, List.getElem?_append_left h]
theorem pad64_full (l : List Nat) (h : l.length = 64) : pad64 l = l := by simp [pad64, h]
theorem bytes_word (a b c d : Nat) (_ha : a < 256) (hb : b < 256) (hc : c < 256) (hd : d < 256) :
    ((a * 16777216 ||| b * 65536) ||| c * 256) ||| d = a * 16777216 + b * 65536 + c * 256 + d := by
  have h1 : a * 16777216 ||| b * 65536 = a * 16777216 + b * 65536 := by
    have := Nat.two_pow_add_eq_or_of_lt (i := 24) (b := b * 65536) (by omega) a
    rw [show 2 ^ 24 * a = a * 16777216 by omega] at this
    exact this.symm
  have h2 : (a * 16777216 + b * 65536) ||| c * 256 = a * 16777216 + b * 65536 + c * 256 := by
    have := Nat.two_pow_add_eq_or_of_lt (i := 16) (b := c * 256) (by omega) (a * 256 + b)
    rw [show 2 ^ 16 * (a * 256 + b) = a * 16777216 + b * 65536 by omega] at this
    exact this.symm
  have h3 : (a * 16777216 + b * 65536 + c * 256) ||| d = a * 16777216 + b * 65536 + c * 256 + d := by
    have := Nat.two_pow_add_eq_or_of_lt (i := 8) (b := d) (by omega) (a * 65536 + b * 256 + c)
    rw [show 2 ^ 8 * (a * 65536 + b * 256 + c) = a * 16777216 + b * 65536 + c * 256 by omega] at this
    exact this.symm
  rw [h1, h2, h3]
set_option maxRecDepth 100000 in
set_option maxHeartbeats 800000 in
theorem words_calls (A : Option Addr) (c : Nat) (p : List UInt8) (ws : List Nat) (w : World) (hr : Rd w A (bs p)) (hp : p.length = 64) (hws : Hid (ws = sched p 48)) :
    Calls Try.prog 150 #[.slice A 64 c] w fun e w' => e = .returned (.agg (u32s ws)) ∧ Hid (Chg nowhere w w') := by
  have HR := Lib.hid hr
  have HP := Lib.hid hp
  clear hr hp
  go_enter Try.func150, Try.ntmps150
  go_wp2_with fail
  go_loopw [4, 10] (fun _ t wr => ∃ k : Nat, k ≤ 16 ∧ t = .int .i64 k ∧ Blk wr (w.heap.size + 1) 167 (u32s (pad64 (first16 p k))) ∧ Blk wr w.heap.size 167 (u32s (pad64 [])) ∧ Chg nowhere w wr) (fun _ t _ => 16 - (intOf t).toNat)
  case atStart =>
    refine ⟨0, Nat.zero_le _, rfl, ?_, ?_, ((Chg.refl _ _).alloc _).alloc _⟩
    · exact Blk.new1 w _ _ _
    · exact (Blk.new w _ _).alloc _
  case round =>
    obtain ⟨k, hk, rfl, h1, h2, h3⟩ := hrel
    have H1 := Lib.hid h1
    have H2 := Lib.hid h2
    have H3 := Lib.hid h3
    clear h1 h2 h3
    by_cases hlt : k < 16
    · have e1 : (k : Int) < 16 := by omega
      have hcell : ∀ j, j < 64 → ∃ ad, A = some ad ∧ wr.cell? (ad.add j) = some (.int .u8 ((p.getD j 0).toNat : Int)) := fun j hj => by
        obtain ⟨ad, b, h1, h2, h3⟩ := (HR.out.later H3.out).byte (k := j) (by have := HP.out; omega)
        refine ⟨ad, h1, ?_⟩
        rw [h3, List.getD_eq_getElem?_getD, h2]
        rfl
      obtain ⟨ad, rfl, c0⟩ := hcell (4 * k) (by omega)
      obtain ⟨_, e, c1⟩ := hcell (4 * k + 1) (by omega)
      injection e with e
      subst e
      obtain ⟨_, e, c2⟩ := hcell (4 * k + 2) (by omega)
      injection e with e
      subst e
      obtain ⟨_, e, c3⟩ := hcell (4 * k + 3) (by omega)
      injection e with e
      subst e
      have b0 := (p.getD (4 * k) 0).toNat_lt
      have b1 := (p.getD (4 * k + 1) 0).toNat_lt
      have b2 := (p.getD (4 * k + 2) 0).toNat_lt
      have b3 := (p.getD (4 * k + 3) 0).toNat_lt
      have hw4 : word4 p k = (p.getD (4 * k) 0).toNat * 16777216 + (p.getD (4 * k + 1) 0).toNat * 65536 + (p.getD (4 * k + 2) 0).toNat * 256 + (p.getD (4 * k + 3) 0).toNat := rfl
      generalize (p.getD (4 * k) 0).toNat = x0 at *
      generalize (p.getD (4 * k + 1) 0).toNat = x1 at *
      generalize (p.getD (4 * k + 2) 0).toNat = x2 at *
      generalize (p.getD (4 * k + 3) 0).toNat = x3 at *
      have HW := Lib.hid hw4
      have hlen : (first16 p k).length = k := first16_len p k
      have hcz : wr.cell? ⟨w.heap.size + 1, k, none⟩ = some (.int .u32 ((pad64 (first16 p k)).getD k 0 : Nat)) := by
        rw [H1.out.cell]
        exact u32s_get _ _ (by rw [pad64_len _ (by omega)]; omega)
      have hfz : wr.frozen? ⟨w.heap.size + 1, k, none⟩ = false := H1.out.frozen k
      obtain ⟨j0, hj0⟩ : ∃ j, j = 4 * k := ⟨_, rfl⟩
      obtain ⟨j1, hj1⟩ : ∃ j, j = 4 * k + 1 := ⟨_, rfl⟩
      obtain ⟨j2, hj2⟩ : ∃ j, j = 4 * k + 2 := ⟨_, rfl⟩
      obtain ⟨j3, hj3⟩ : ∃ j, j = 4 * k + 3 := ⟨_, rfl⟩
      rw [← hj0] at c0
      rw [← hj1] at c1
      rw [← hj2] at c2
      rw [← hj3] at c3
      have r0 : IntKind.i64.wrap (4 * (k : Int)) = (j0 : Int) := by rw [IntWalk.i64_in _ (by omega)]; omega
      have r1 : IntKind.i64.wrap ((j0 : Int) + 1) = (j1 : Int) := by rw [IntWalk.i64_in _ (by omega)]; omega
      have r2 : IntKind.i64.wrap ((j0 : Int) + 2) = (j2 : Int) := by rw [IntWalk.i64_in _ (by omega)]; omega
      have r3 : IntKind.i64.wrap ((j0 : Int) + 3) = (j3 : Int) := by rw [IntWalk.i64_in _ (by omega)]; omega
      have hor := bytes_word x0 x1 x2 x3 (by omega) (by omega) (by omega) (by omega)
      rw [← hw4] at hor
      have hwl := word4_lt p k
      obtain ⟨z3, hz3⟩ : ∃ z, z = word4 p k := ⟨_, rfl⟩
      rw [← hz3] at hor hwl
      obtain ⟨y0, hy0⟩ : ∃ y, y = x0 * 16777216 := ⟨_, rfl⟩
      obtain ⟨y1, hy1⟩ : ∃ y, y = x1 * 65536 := ⟨_, rfl⟩
      obtain ⟨y2, hy2⟩ : ∃ y, y = x2 * 256 := ⟨_, rfl⟩
      have v0 : IntKind.u32.wrap (x0 : Int) = (x0 : Int) := by rw [u32_wrap_mod]; omega
      have v1 : IntKind.u32.wrap (x1 : Int) = (x1 : Int) := by rw [u32_wrap_mod]; omega
      have v2 : IntKind.u32.wrap (x2 : Int) = (x2 : Int) := by rw [u32_wrap_mod]; omega
      have v3 : IntKind.u32.wrap (x3 : Int) = (x3 : Int) := by rw [u32_wrap_mod]; omega
      have u0 : IntKind.u32.wrap ((x0 : Int) * 16777216) = (y0 : Int) := by rw [u32_wrap_mod]; omega
      have u1 : IntKind.u32.wrap ((x1 : Int) * 65536) = (y1 : Int) := by rw [u32_wrap_mod]; omega
      have u2 : IntKind.u32.wrap ((x2 : Int) * 256) = (y2 : Int) := by rw [u32_wrap_mod]; omega
      rw [← hy0, ← hy1, ← hy2] at hor
      obtain ⟨z1, hz1⟩ : ∃ z, z = y0 ||| y1 := ⟨_, rfl⟩
      obtain ⟨z2, hz2⟩ : ∃ z, z = z1 ||| y2 := ⟨_, rfl⟩
      have l1 : z1 < 2 ^ 32 := by rw [hz1]; exact Nat.or_lt_two_pow (by omega) (by omega)
      have l2 : z2 < 2 ^ 32 := by rw [hz2]; exact Nat.or_lt_two_pow (by omega) (by omega)
      have t1 := u32_or_eq y0 y1 z1 hz1.symm (by omega) (by omega)
      have t2 := u32_or_eq z1 y2 z2 hz2.symm (by omega) (by omega)
      have t3 := u32_or_eq z2 x3 z3 (by rw [hz2, hz1]; exact hor) (by omega) (by omega)
      have HZ := Lib.hid hz3
      have HN := Lib.hid (H1.out.set_ k (.int .u32 (z3 : Int)))
      have HN2 := Lib.hid (H2.out.far (p := ⟨w.heap.size + 1, k, none⟩) (by show w.heap.size ≠ w.heap.size + 1; omega) (.int .u32 (z3 : Int)))
      have HC := Lib.hid (H3.out.setCell (p := ⟨w.heap.size + 1, k, none⟩) (fun h => by have h' : w.heap.size + 1 < w.heap.size := h; omega) (.int .u32 (z3 : Int)))
      rw [u32s_set] at HN
      have hps : (pad64 (first16 p k)).set k z3 = pad64 (first16 p (k + 1)) := by
        rw [first16_succ, ← hz3]
        have := pad64_set (first16 p k) z3 (by omega)
        rwa [hlen] at this
      rw [hps] at HN
      have g0 : (j0 : Int) < 64 := by omega
      have g4 : (k : Int) < 64 := by omega
      have g1 : (j1 : Int) < 64 := by omega
      have g2 : (j2 : Int) < 64 := by omega
      have g3 : (j3 : Int) < 64 := by omega
      clear hw4 hlen hcell hj0 hj1 hj2 hj3 hor hz3 hy0 hy1 hy2 hz1 hz2 hps
      go_wp2_with fail
      go_still_tail 35, (by kernel_rfl)
      change wpList _ _ _ _ _ wr.drew
      go_wp2_with fail
      exact ⟨⟨k + 1, by omega, by go_num, HN.out, HN2.out, HC.out.drew⟩, by simp [intOf]; omega⟩
    · have e1 : (16 : Int) ≤ k := by omega
      obtain rfl : k = 16 := by omega
      have H1' : Hid (Blk wr (w.heap.size + 1) 167 (u32s (pad64 (sched p 0)))) := H1
      clear H1 hk hlt
      go_wp2_with fail
      go_loopw [5, 6, 7, 8, 9] (fun t _ _ _ _ wr => ∃ k : Nat, k ≤ 48 ∧ t = .int .i64 ((16 + k : Nat) : Int) ∧ Blk wr (w.heap.size + 1) 167 (u32s (pad64 (sched p k))) ∧ Blk wr w.heap.size 167 (u32s (pad64 [])) ∧ Chg nowhere w wr) (fun t _ _ _ _ _ => 64 - (intOf t).toNat)
      case atStart => exact ⟨0, Nat.zero_le _, rfl, H1'.out, H2.out, H3.out⟩
      case round =>
        obtain ⟨k, hk, rfl, h1, h2, h3⟩ := hrel
        have H1 := Lib.hid h1
        have H2 := Lib.hid h2
        have H3 := Lib.hid h3
        clear h1 h2 h3
        have hlen : (sched p k).length = 16 + k := sched_len p k
        obtain ⟨n, hn⟩ : ∃ n, n = 16 + k := ⟨_, rfl⟩
        rw [← hn]
        have hn16 : 16 ≤ n := by omega
        by_cases hlt : n < 64
        · have e1 : (n : Int) < 64 := by omega
          have hcell : ∀ j, j < n → wr.cell? ⟨w.heap.size + 1, j, none⟩ = some (.int .u32 ((sched p k).getD j 0 : Nat)) := fun j hj => by
            rw [H1.out.cell, u32s_get _ _ (by rw [pad64_len _ (by omega)]; omega), pad64_get _ _ (by omega)]
          have hlt32 : ∀ j, (sched p k).getD j 0 < 4294967296 := fun j => getD_lt (sched_lt p k) j
          have hnw : nextW (sched p k) n = add32 (add32 (add32 ((sched p k).getD (n - 16) 0) (ssig0 ((sched p k).getD (n - 15) 0))) ((sched p k).getD (n - 7) 0)) (ssig1 ((sched p k).getD (n - 2) 0)) := rfl
          have hsc : sched p (k + 1) = sched p k ++ [nextW (sched p k) n] := by rw [hn]; rfl
          obtain ⟨i16, hi16⟩ : ∃ i, i = n - 16 := ⟨_, rfl⟩
          obtain ⟨i15, hi15⟩ : ∃ i, i = n - 15 := ⟨_, rfl⟩
          obtain ⟨i7, hi7⟩ : ∃ i, i = n - 7 := ⟨_, rfl⟩
          obtain ⟨i2, hi2⟩ : ∃ i, i = n - 2 := ⟨_, rfl⟩
          rw [← hi16, ← hi15, ← hi7, ← hi2] at hnw
          have c16 := hcell i16 (by omega)
          have c15 := hcell i15 (by omega)
          have c7 := hcell i7 (by omega)
          have c2 := hcell i2 (by omega)
          have l16 := hlt32 i16
          have l15 := hlt32 i15
          have l7 := hlt32 i7
          have l2 := hlt32 i2
          generalize (sched p k).getD i16 0 = x16 at *
          generalize (sched p k).getD i15 0 = x15 at *
          generalize (sched p k).getD i7 0 = x7 at *
          generalize (sched p k).getD i2 0 = x2 at *
          have r16 : IntKind.i64.wrap ((n : Int) - 16) = (i16 : Int) := by rw [IntWalk.i64_in _ (by omega)]; omega
          have r15 : IntKind.i64.wrap ((n : Int) - 15) = (i15 : Int) := by rw [IntWalk.i64_in _ (by omega)]; omega
          have r7 : IntKind.i64.wrap ((n : Int) - 7) = (i7 : Int) := by rw [IntWalk.i64_in _ (by omega)]; omega
          have r2 : IntKind.i64.wrap ((n : Int) - 2) = (i2 : Int) := by rw [IntWalk.i64_in _ (by omega)]; omega
          have g16 : (i16 : Int) < 64 := by omega
          have g15 : (i15 : Int) < 64 := by omega
          have g7 : (i7 : Int) < 64 := by omega
          have g2 : (i2 : Int) < 64 := by omega
          have hcz : wr.cell? ⟨w.heap.size + 1, n, none⟩ = some (.int .u32 ((pad64 (sched p k)).getD n 0 : Nat)) := by
            rw [H1.out.cell]
            exact u32s_get _ _ (by rw [pad64_len _ (by omega)]; omega)
          have hfz : wr.frozen? ⟨w.heap.size + 1, n, none⟩ = false := H1.out.frozen n
          have HNW := Lib.hid hnw
          have HSC := Lib.hid hsc
          have HNN := Lib.hid hn
          clear hnw hsc hn hcell hlt32 hi16 hi15 hi7 hi2 hlen
          go_wp2_with fail
          go_quiet (fail)
          obtain ⟨xa, hxa⟩ : ∃ z, z = rotr 7 x15 ^^^ rotr 18 x15 := ⟨_, rfl⟩
          obtain ⟨xb, hxb⟩ : ∃ z, z = rotr 17 x2 ^^^ rotr 19 x2 := ⟨_, rfl⟩
          obtain ⟨s0, hs0⟩ : ∃ z, z = ssig0 x15 := ⟨_, rfl⟩
          obtain ⟨s1, hs1⟩ : ∃ z, z = ssig1 x2 := ⟨_, rfl⟩
          have a1 := @rotr_lt 7 x15 l15 (by decide) (by decide)
          have a2 := @rotr_lt 18 x15 l15 (by decide) (by decide)
          have a3 := @rotr_lt 17 x2 l2 (by decide) (by decide)
          have a4 := @rotr_lt 19 x2 l2 (by decide) (by decide)
          have a5 : xa < 4294967296 := by rw [hxa]; exact xor_lt a1 a2
          have a6 : xb < 4294967296 := by rw [hxb]; exact xor_lt a3 a4
          have q1 := u32_xor_eq _ _ xa hxa a1 a2
          have q2 := u32_xor_eq xa (x15 / 8) s0 (by rw [hs0, hxa]; rfl) a5 (by omega)
          have q3 := u32_xor_eq _ _ xb hxb a3 a4
          have q4 := u32_xor_eq xb (x2 / 1024) s1 (by rw [hs1, hxb]; rfl) a6 (by omega)
          rw [show ((x15 / 8 : Nat) : Int) = (x15 : Int) / 8 from rfl] at q2
          rw [show ((x2 / 1024 : Nat) : Int) = (x2 : Int) / 1024 from rfl] at q4
          obtain ⟨t1, ht1⟩ : ∃ z, z = add32 x16 s0 := ⟨_, rfl⟩
          obtain ⟨t2, ht2⟩ : ∃ z, z = add32 t1 x7 := ⟨_, rfl⟩
          obtain ⟨t3, ht3⟩ : ∃ z, z = add32 t2 s1 := ⟨_, rfl⟩
          have p1 := u32_add_eq x16 s0 t1 ht1
          have p2 := u32_add_eq t1 x7 t2 ht2
          have p3 := u32_add_eq t2 s1 t3 ht3
          have HT : Hid (t3 = nextW (sched p k) n) := Lib.hid (by rw [HNW.out, ht3, ht2, ht1, hs0, hs1])
          clear hxa hxb hs0 hs1 ht1 ht2 ht3
          go_wp2_with fail
          replace H1 : Hid (Blk (wr.drewN nq) (w.heap.size + 1) 167 (u32s (pad64 (sched p k)))) := H1
          replace H2 : Hid (Blk (wr.drewN nq) w.heap.size 167 (u32s (pad64 []))) := H2
          replace H3 : Hid (Chg nowhere w (wr.drewN nq)) := Lib.hid (H3.out.drewN nq)
          replace c16 : (wr.drewN nq).cell? _ = _ := c16
          replace c15 : (wr.drewN nq).cell? _ = _ := c15
          replace c7 : (wr.drewN nq).cell? _ = _ := c7
          replace c2 : (wr.drewN nq).cell? _ = _ := c2
          replace hcz : (wr.drewN nq).cell? _ = _ := hcz
          replace hfz : (wr.drewN nq).frozen? _ = _ := hfz
          generalize wr.drewN nq = wq at *
          have HN := Lib.hid (H1.out.set_ n (.int .u32 (t3 : Int)))
          have HN2 := Lib.hid (H2.out.far (p := ⟨w.heap.size + 1, n, none⟩) (by show w.heap.size ≠ w.heap.size + 1; omega) (.int .u32 (t3 : Int)))
          have HC := Lib.hid (H3.out.setCell (p := ⟨w.heap.size + 1, n, none⟩) (fun h => by have h' : w.heap.size + 1 < w.heap.size := h; omega) (.int .u32 (t3 : Int)))
          rw [u32s_set, show (pad64 (sched p k)).set n t3 = pad64 (sched p (k + 1)) by
            rw [HSC.out, HT.out]
            have := pad64_set (sched p k) (nextW (sched p k) n) (by rw [sched_len]; have := HNN.out; omega)
            rwa [sched_len, ← HNN.out] at this] at HN
          refine (right_calls x15 7 _ l15 (by decide) (by decide)).mono ?_
          rintro e w2 ⟨rfl, rfl⟩
          go_wp2_with fail
          refine (right_calls x15 18 _ l15 (by decide) (by decide)).mono ?_
          rintro e w2 ⟨rfl, rfl⟩
          go_wp2_with fail
          refine (right_calls x2 17 _ l2 (by decide) (by decide)).mono ?_
          rintro e w2 ⟨rfl, rfl⟩
          go_wp2_with fail
          refine (right_calls x2 19 _ l2 (by decide) (by decide)).mono ?_
          rintro e w2 ⟨rfl, rfl⟩
          go_wp2_with fail
          go_still_tail 15, (by kernel_rfl)
          change wpList _ _ _ _ _ (World.drew _)
          go_wp2_with fail
          refine ⟨?_, by simp [intOf]; omega⟩
          (repeat apply Exists.intro); exact ⟨⟨k + 1, by have h := HNN.out; omega, by have h := HNN.out; congr 1; omega, HN.out, HN2.out, HC.out.drew⟩, rfl⟩
        · have e1 : (64 : Int) ≤ n := by omega
          obtain rfl : k = 48 := by omega
          have h64 : (sched p 48).length = 64 := sched_len p 48
          rw [pad64_full _ h64, ← hws.out] at H1
          rw [← hws.out] at h64
          have hi : (Try.prog.info? 167).map (·.size) = some 64 := by kernel_rfl
          have hlen1 : (u32s (ws)).size = 64 := by rw [u32s_size, h64]
          have hlen0 : (u32s (pad64 [])).size = 64 := by rw [u32s_size]; rfl
          clear hn hlen h64
          go_wp2_with (first | (refine wpList_load_row rfl 167 _ rfl (w.heap.size + 1) rfl 167 _ (0, 0) _ H1.out Try.underlying167 rfl (by rw [hlen1]; exact hi) ?_) | (refine wpList_store_row rfl 167 _ _ rfl w.heap.size _ rfl rfl 167 _ H2.out (by rw [hlen1]; exact hi) (by rw [hlen1]; exact hlen0) (u32s_one _) ?_))
          refine bodyPost_ret (v := .agg (u32s (ws))) (results_cell_row rfl _ _ w.heap.size 167 _ (0, 0) _ rfl (H2.out.row_ _) Try.underlying167 rfl (by rw [hlen1]; exact hi)) rfl ⟨rfl, ?_⟩
          exact H3.out.setRow (fun h => by omega) _
end Go.Proofs.Ytmijlojjkgeplaa
