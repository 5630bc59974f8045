/- DgB -/
import Derived.Test.YtmnapacibpnodaaGreatUeDig
open Go Go.RowKit
namespace Go.Proofs.YtmnapacibpnodaaGreat
set_option maxRecDepth 100000 in
set_option maxHeartbeats 400000 in
theorem refK_calls (w : World) : Calls Tryz.prog 56 #[] w fun e w' => e = .returned (.agg (u32s kSha)) ∧ Hid (Chg nowhere w w') := by
  go_enter Tryz.func56, Tryz.ntmps56
  go_wp2_with (first | (refine wpList_build_eq rfl 117 _ rfl (u32s kSha) (by kernel_rfl) ?_) | (refine wpList_store_row rfl 117 _ _ rfl w.heap.size (u32s kSha) rfl rfl 117 _ (heap_alloc_new w _) (by kernel_rfl) (by kernel_rfl) (u32s_one _) ?_))
  refine bodyPost_ret (v := .agg (u32s kSha)) (results_cell_row rfl _ _ w.heap.size 117 (u32s kSha) (0, 0) _ rfl ((Blk.new w _ _).row_ _) Tryz.underlying117 rfl (by kernel_rfl)) rfl ⟨rfl, ?_⟩
  exact ((Chg.refl _ _).alloc _).setRow (fun h => by omega) _
set_option maxRecDepth 100000 in
set_option maxHeartbeats 1600000 in
theorem refBlock_calls (A : Option Addr) (c gk : Nat) (p : List UInt8) (v r8 : V8) (w : World) (hv : v.ok) (hr : Rd w A (bs p)) (hp : p.length = 64) (hk : Blk w gk 117 (u32s kSha)) (hr8 : Hid (r8 = blkSha v p)) :
    Calls Tryz.prog 57 #[.agg (u32s v.l), .slice A 64 c, .pointer (some ⟨gk, 0, none⟩)] w fun e w' => e = .returned (.agg (u32s r8.l)) ∧ Hid (Chg nowhere w w') := by
  have HR := Lib.hid hr
  have HP := Lib.hid hp
  have HV := Lib.hid hv
  have HKK := Lib.hid hk
  clear hr hp hv hk
  go_enter Tryz.func57, Tryz.ntmps57
  go_wp2_with fail
  obtain ⟨bk0, hbk0⟩ : ∃ z, z = w.heap.size := ⟨_, rfl⟩
  obtain ⟨bk1, hbk1⟩ : ∃ z, z = bk0 + 1 := ⟨_, rfl⟩
  obtain ⟨bk2, hbk2⟩ : ∃ z, z = bk0 + 2 := ⟨_, rfl⟩
  rw [← hbk0]
  rw [show bk0 + 1 + 1 = bk2 from hbk2.symm, ← hbk1]
  obtain ⟨w1, hw1⟩ : ∃ w1, w1 = ((w.alloc (.cells (u32s v.l) 116)).alloc (.cells (u32s (List.replicate 8 0)) 116)).alloc (.cells (u32s (pad64 [])) 117) := ⟨_, rfl⟩
  have hzero : (((w.alloc (.cells (u32s v.l) 116)).alloc (.cells (u32s (List.replicate 8 0)) 116)).alloc (.cells (u32s (pad64 [])) 117)) = w1 := hw1.symm
  have B0 : Hid (Blk w1 bk0 116 (u32s v.l)) := Lib.hid (by rw [hw1, hbk0]; exact ((Blk.new w _ _).alloc _).alloc _)
  have B1 : Hid (Blk w1 bk1 116 (u32s (List.replicate 8 0))) := Lib.hid (by rw [hw1, hbk1, hbk0]; exact (Blk.new1 w _ _ _).alloc _)
  have B2 : Hid (Blk w1 bk2 117 (u32s (pad64 []))) := Lib.hid (by
    rw [hw1, hbk2, hbk0]
    have h := Blk.new1 (w.alloc (.cells (u32s v.l) 116)) (.cells (u32s (List.replicate 8 0)) 116) 117 (u32s (pad64 []))
    simpa using h)
  have HC1 : Hid (Chg nowhere w w1) := Lib.hid (by rw [hw1]; exact (((Chg.refl _ _).alloc _).alloc _).alloc _)
  have HRW : Hid (Rd w1 A (bs p)) := Lib.hid (HR.out.later HC1.out)
  have HAP : Hid (Apart (fun k => k = bk2) A (bs p)) := Lib.hid (HR.out.apart (fun k hk => by omega))
  have hgk0 : gk < bk0 := by rw [hbk0]; exact HKK.out.lt
  have HK1 : Hid (Blk w1 gk 117 (u32s kSha)) := Lib.hid (HKK.out.chg HC1.out (fun h => h))
  have hbks : bk1 < bk2 ∧ bk0 < bk2 ∧ bk0 < bk1 ∧ bk2 < w1.heap.size := by
    refine ⟨by omega, by omega, by omega, ?_⟩
    exact B2.out.lt
  have HZ0 := Lib.hid hbk0
  change Code.wp _ _ _ _ (((w.alloc (.cells (u32s v.l) 116)).alloc (.cells (u32s (List.replicate 8 0)) 116)).alloc (.cells (u32s (pad64 [])) 117))
  rw [hzero]
  clear hzero hw1 hbk0 hbk1 hbk2
  obtain ⟨hbk12, hbk02, hbk01, hbk2w⟩   := hbks
  go_loopw [8] (fun t wr => ∃ k : Nat, k ≤ 16 ∧ t = .int .i64 k ∧ Blk wr bk2 117 (u32s (pad64 (first16 p k))) ∧ Chg (fun k => k = bk2) w1 wr) (fun t _ => 16 - (intOf t).toNat)
  case atStart => exact ⟨0, Nat.zero_le _, rfl, B2.out, Chg.refl _ _⟩
  case round =>
    obtain ⟨k, hk, rfl, h1, h3⟩ := hrel
    have H1 := Lib.hid h1
    have H3 := Lib.hid h3
    clear h1 h3
    by_cases hlt : k < 16
    · have e1 : (k : Int) < 16 := by omega
      have hcell : ∀ j, j < 64 → ∃ ad, A = some ad ∧ wr.cell? (ad.add j) = some (.int .u8 ((p.getD j 0).toNat : Int)) := fun j hj => by
        obtain ⟨ad, b, h1, h2, h3⟩ := (HRW.out.chg H3.out HAP.out).byte (k := j) (by have := HP.out; omega)
        refine ⟨ad, h1, ?_⟩
        rw [h3, List.getD_eq_getElem?_getD, h2]
        rfl
      obtain ⟨ad, rfl, c0⟩ := hcell (4 * k) (by omega)
      obtain ⟨_, e, c1⟩ := hcell (4 * k + 1) (by omega)
      injection e with e
      subst e
      obtain ⟨_, e, c2⟩ := hcell (4 * k + 2) (by omega)
      injection e with e
      subst e
      obtain ⟨_, e, c3⟩ := hcell (4 * k + 3) (by omega)
      injection e with e
      subst e
      have b0 := (p.getD (4 * k) 0).toNat_lt
      have b1 := (p.getD (4 * k + 1) 0).toNat_lt
      have b2 := (p.getD (4 * k + 2) 0).toNat_lt
      have b3 := (p.getD (4 * k + 3) 0).toNat_lt
      have hw4 : word4 p k = (p.getD (4 * k) 0).toNat * 16777216 + (p.getD (4 * k + 1) 0).toNat * 65536 + (p.getD (4 * k + 2) 0).toNat * 256 + (p.getD (4 * k + 3) 0).toNat := rfl
      generalize (p.getD (4 * k) 0).toNat = x0 at *
      generalize (p.getD (4 * k + 1) 0).toNat = x1 at *
      generalize (p.getD (4 * k + 2) 0).toNat = x2 at *
      generalize (p.getD (4 * k + 3) 0).toNat = x3 at *
      have HW := Lib.hid hw4
      have hlen : (first16 p k).length = k := first16_len p k
      have hcz : wr.cell? ⟨bk2, k, none⟩ = some (.int .u32 ((pad64 (first16 p k)).getD k 0 : Nat)) := by
        rw [H1.out.cell]
        exact u32s_get _ _ (by rw [pad64_len _ (by omega)]; omega)
      have hfz : wr.frozen? ⟨bk2, k, none⟩ = false := H1.out.frozen k
      obtain ⟨j0, hj0⟩ : ∃ j, j = 4 * k := ⟨_, rfl⟩
      obtain ⟨j1, hj1⟩ : ∃ j, j = 4 * k + 1 := ⟨_, rfl⟩
      obtain ⟨j2, hj2⟩ : ∃ j, j = 4 * k + 2 := ⟨_, rfl⟩
      obtain ⟨j3, hj3⟩ : ∃ j, j = 4 * k + 3 := ⟨_, rfl⟩
      rw [← hj0] at c0
      rw [← hj1] at c1
      rw [← hj2] at c2
      rw [← hj3] at c3
      have r0 : IntKind.i64.wrap (4 * (k : Int)) = (j0 : Int) := by rw [IntWalk.i64_in _ (by omega)]; omega
      have r1 : IntKind.i64.wrap ((j0 : Int) + 1) = (j1 : Int) := by rw [IntWalk.i64_in _ (by omega)]; omega
      have r2 : IntKind.i64.wrap ((j0 : Int) + 2) = (j2 : Int) := by rw [IntWalk.i64_in _ (by omega)]; omega
      have r3 : IntKind.i64.wrap ((j0 : Int) + 3) = (j3 : Int) := by rw [IntWalk.i64_in _ (by omega)]; omega
      have hor := bytes_word x0 x1 x2 x3 (by omega) (by omega) (by omega) (by omega)
      rw [← hw4] at hor
      have hwl := word4_lt p k
      obtain ⟨z3, hz3⟩ : ∃ z, z = word4 p k := ⟨_, rfl⟩
      rw [← hz3] at hor hwl
      obtain ⟨y0, hy0⟩ : ∃ y, y = x0 * 16777216 := ⟨_, rfl⟩
      obtain ⟨y1, hy1⟩ : ∃ y, y = x1 * 65536 := ⟨_, rfl⟩
      obtain ⟨y2, hy2⟩ : ∃ y, y = x2 * 256 := ⟨_, rfl⟩
      have v0 : IntKind.u32.wrap (x0 : Int) = (x0 : Int) := by rw [u32_wrap_mod]; omega
      have v1 : IntKind.u32.wrap (x1 : Int) = (x1 : Int) := by rw [u32_wrap_mod]; omega
      have v2 : IntKind.u32.wrap (x2 : Int) = (x2 : Int) := by rw [u32_wrap_mod]; omega
      have v3 : IntKind.u32.wrap (x3 : Int) = (x3 : Int) := by rw [u32_wrap_mod]; omega
      have u0 : IntKind.u32.wrap ((x0 : Int) * 16777216) = (y0 : Int) := by rw [u32_wrap_mod]; omega
      have u1 : IntKind.u32.wrap ((x1 : Int) * 65536) = (y1 : Int) := by rw [u32_wrap_mod]; omega
      have u2 : IntKind.u32.wrap ((x2 : Int) * 256) = (y2 : Int) := by rw [u32_wrap_mod]; omega
      rw [← hy0, ← hy1, ← hy2] at hor
      obtain ⟨z1, hz1⟩ : ∃ z, z = y0 ||| y1 := ⟨_, rfl⟩
      obtain ⟨z2, hz2⟩ : ∃ z, z = z1 ||| y2 := ⟨_, rfl⟩
      have l1 : z1 < 2 ^ 32 := by rw [hz1]; exact Nat.or_lt_two_pow (by omega) (by omega)
      have l2 : z2 < 2 ^ 32 := by rw [hz2]; exact Nat.or_lt_two_pow (by omega) (by omega)
      have t1 := u32_or_eq y0 y1 z1 hz1.symm (by omega) (by omega)
      have t2 := u32_or_eq z1 y2 z2 hz2.symm (by omega) (by omega)
      have t3 := u32_or_eq z2 x3 z3 (by rw [hz2, hz1]; exact hor) (by omega) (by omega)
      have HZ := Lib.hid hz3
      have HN := Lib.hid (H1.out.set_ k (.int .u32 (z3 : Int)))
      have HC := Lib.hid (H3.out.setCell (p := ⟨bk2, k, none⟩) (fun _ => rfl) (.int .u32 (z3 : Int)))
      rw [u32s_set] at HN
      have hps : (pad64 (first16 p k)).set k z3 = pad64 (first16 p (k + 1)) := by
        rw [first16_succ, ← hz3]
        have := pad64_set (first16 p k) z3 (by omega)
        rwa [hlen] at this
      rw [hps] at HN
      have g0 : (j0 : Int) < 64 := by omega
      have g4 : (k : Int) < 64 := by omega
      have g1 : (j1 : Int) < 64 := by omega
      have g2 : (j2 : Int) < 64 := by omega
      have g3 : (j3 : Int) < 64 := by omega
      clear hw4 hlen hcell hj0 hj1 hj2 hj3 hor hz3 hy0 hy1 hy2 hz1 hz2 hps
      go_wp2_with fail
      go_still_tail 35, (by kernel_rfl)
      change wpList _ _ _ _ _ wr.drew
      go_wp2_with fail
      exact ⟨⟨k + 1, by omega, by go_num, HN.out, HC.out.drew⟩, by simp [intOf]; omega⟩
    · have e1 : (16 : Int) ≤ k := by omega
      obtain rfl : k = 16 := by omega
      have H1' : Hid (Blk wr bk2 117 (u32s (pad64 (sched p 0)))) := H1
      clear H1 hk hlt
      go_wp2_with fail
      go_loopw [9, 10, 11] (fun t _ _ wr => ∃ k : Nat, k ≤ 48 ∧ t = .int .i64 ((16 + k : Nat) : Int) ∧ Blk wr bk2 117 (u32s (pad64 (sched p k))) ∧ Chg (fun k => k = bk2) w1 wr) (fun t _ _ _ => 64 - (intOf t).toNat)
      case atStart => exact ⟨0, Nat.zero_le _, rfl, H1'.out, H3.out⟩
      case round =>
        obtain ⟨k, hk, rfl, h1, h3⟩ := hrel
        have H1 := Lib.hid h1
        have H3 := Lib.hid h3
        clear h1 h3
        have hlen : (sched p k).length = 16 + k := sched_len p k
        obtain ⟨n, hn⟩ : ∃ n, n = 16 + k := ⟨_, rfl⟩
        rw [← hn]
        have hn16 : 16 ≤ n := by omega
        by_cases hlt : n < 64
        · have e1 : (n : Int) < 64 := by omega
          have hcell : ∀ j, j < n → wr.cell? ⟨bk2, j, none⟩ = some (.int .u32 ((sched p k).getD j 0 : Nat)) := fun j hj => by
            rw [H1.out.cell, u32s_get _ _ (by rw [pad64_len _ (by omega)]; omega), pad64_get _ _ (by omega)]
          have hlt32 : ∀ j, (sched p k).getD j 0 < 4294967296 := fun j => getD_lt (sched_lt p k) j
          have hnw : nextW (sched p k) n = add32 (add32 (add32 ((sched p k).getD (n - 16) 0) (ssig0 ((sched p k).getD (n - 15) 0))) ((sched p k).getD (n - 7) 0)) (ssig1 ((sched p k).getD (n - 2) 0)) := rfl
          have hsc : sched p (k + 1) = sched p k ++ [nextW (sched p k) n] := by rw [hn]; rfl
          obtain ⟨i16, hi16⟩ : ∃ i, i = n - 16 := ⟨_, rfl⟩
          obtain ⟨i15, hi15⟩ : ∃ i, i = n - 15 := ⟨_, rfl⟩
          obtain ⟨i7, hi7⟩ : ∃ i, i = n - 7 := ⟨_, rfl⟩
          obtain ⟨i2, hi2⟩ : ∃ i, i = n - 2 := ⟨_, rfl⟩
          rw [← hi16, ← hi15, ← hi7, ← hi2] at hnw
          have c16 := hcell i16 (by omega)
          have c15 := hcell i15 (by omega)
          have c7 := hcell i7 (by omega)
          have c2 := hcell i2 (by omega)
          have l16 := hlt32 i16
          have l15 := hlt32 i15
          have l7 := hlt32 i7
          have l2 := hlt32 i2
          generalize (sched p k).getD i16 0 = x16 at *
          generalize (sched p k).getD i15 0 = x15 at *
          generalize (sched p k).getD i7 0 = x7 at *
          generalize (sched p k).getD i2 0 = x2 at *
          have r16 : IntKind.i64.wrap ((n : Int) - 16) = (i16 : Int) := by rw [IntWalk.i64_in _ (by omega)]; omega
          have r15 : IntKind.i64.wrap ((n : Int) - 15) = (i15 : Int) := by rw [IntWalk.i64_in _ (by omega)]; omega
          have r7 : IntKind.i64.wrap ((n : Int) - 7) = (i7 : Int) := by rw [IntWalk.i64_in _ (by omega)]; omega
          have r2 : IntKind.i64.wrap ((n : Int) - 2) = (i2 : Int) := by rw [IntWalk.i64_in _ (by omega)]; omega
          have g16 : (i16 : Int) < 64 := by omega
          have g15 : (i15 : Int) < 64 := by omega
          have g7 : (i7 : Int) < 64 := by omega
          have g2 : (i2 : Int) < 64 := by omega
          have hcz : wr.cell? ⟨bk2, n, none⟩ = some (.int .u32 ((pad64 (sched p k)).getD n 0 : Nat)) := by
            rw [H1.out.cell]
            exact u32s_get _ _ (by rw [pad64_len _ (by omega)]; omega)
          have hfz : wr.frozen? ⟨bk2, n, none⟩ = false := H1.out.frozen n
          have HNW := Lib.hid hnw
          have HSC := Lib.hid hsc
          have HNN := Lib.hid hn
          clear hnw hsc hn hcell hlt32 hi16 hi15 hi7 hi2 hlen
          obtain ⟨xa, hxa⟩ : ∃ z, z = rotr 7 x15 ^^^ rotr 18 x15 := ⟨_, rfl⟩
          obtain ⟨xb, hxb⟩ : ∃ z, z = rotr 17 x2 ^^^ rotr 19 x2 := ⟨_, rfl⟩
          obtain ⟨s0, hs0⟩ : ∃ z, z = ssig0 x15 := ⟨_, rfl⟩
          obtain ⟨s1, hs1⟩ : ∃ z, z = ssig1 x2 := ⟨_, rfl⟩
          have a1 := @rotr_lt 7 x15 l15 (by decide) (by decide)
          have a2 := @rotr_lt 18 x15 l15 (by decide) (by decide)
          have a3 := @rotr_lt 17 x2 l2 (by decide) (by decide)
          have a4 := @rotr_lt 19 x2 l2 (by decide) (by decide)
          have a5 : xa < 4294967296 := by rw [hxa]; exact xor_lt a1 a2
          have a6 : xb < 4294967296 := by rw [hxb]; exact xor_lt a3 a4
          have q1 := u32_xor_eq _ _ xa hxa a1 a2
          have q1' : bits .xor .u32 ((rotr (Int.toNat 7) x15 : Nat) : Int) ((rotr (Int.toNat 18) x15 : Nat) : Int) = xa := q1
          have q2 := u32_xor_eq xa (x15 / 8) s0 (by rw [hs0, hxa]; rfl) a5 (by omega)
          have q3 := u32_xor_eq _ _ xb hxb a3 a4
          have q3' : bits .xor .u32 ((rotr (Int.toNat 17) x2 : Nat) : Int) ((rotr (Int.toNat 19) x2 : Nat) : Int) = xb := q3
          have q4 := u32_xor_eq xb (x2 / 1024) s1 (by rw [hs1, hxb]; rfl) a6 (by omega)
          rw [show ((x15 / 8 : Nat) : Int) = (x15 : Int) / 8 from rfl] at q2
          rw [show ((x2 / 1024 : Nat) : Int) = (x2 : Int) / 1024 from rfl] at q4
          obtain ⟨t1, ht1⟩ : ∃ z, z = add32 x16 s0 := ⟨_, rfl⟩
          obtain ⟨t2, ht2⟩ : ∃ z, z = add32 t1 x7 := ⟨_, rfl⟩
          obtain ⟨t3, ht3⟩ : ∃ z, z = add32 t2 s1 := ⟨_, rfl⟩
          have p1 := u32_add_eq x16 s0 t1 ht1
          have p2 := u32_add_eq t1 x7 t2 ht2
          have p3 := u32_add_eq t2 s1 t3 ht3
          have HT : Hid (t3 = nextW (sched p k) n) := Lib.hid (by rw [HNW.out, ht3, ht2, ht1, hs0, hs1])
          clear hxa hxb hs0 hs1 ht1 ht2 ht3
          have HN := Lib.hid (H1.out.set_ n (.int .u32 (t3 : Int)))
          have HC := Lib.hid (H3.out.setCell (p := ⟨bk2, n, none⟩) (fun _ => rfl) (.int .u32 (t3 : Int)))
          rw [u32s_set, show (pad64 (sched p k)).set n t3 = pad64 (sched p (k + 1)) by
            rw [HSC.out, HT.out]
            have := pad64_set (sched p k) (nextW (sched p k) n) (by rw [sched_len]; have := HNN.out; omega)
            rwa [sched_len, ← HNN.out] at this] at HN
          go_wp2_with fail
          refine wp_region_still_tail 29 (by kernel_rfl) (by kernel_rfl) ?_
          simp only [List.take_succ_cons, List.take_zero, List.drop_succ_cons, List.drop_zero]
          repeat (first | still_step | still_call (refR_any _ _ _ (by decide) (by decide) l15) | still_call (refR_any _ _ _ (by decide) (by decide) l2))
          refine wpStill_nil ?_
          change wpList _ _ _ _ _ wr.drew
          go_wp2_with fail
          refine ⟨?_, by simp [intOf]; omega⟩
          (repeat apply Exists.intro); exact ⟨⟨k + 1, by have h := HNN.out; omega, by have h := HNN.out; congr 1; omega, HN.out, HC.out.drew⟩, rfl⟩
        · have e1 : (64 : Int) ≤ n := by omega
          obtain rfl : k = 48 := by omega
          have h64 : (sched p 48).length = 64 := sched_len p 48
          rw [pad64_full _ h64] at H1
          obtain ⟨ws, hws⟩ : ∃ ws, ws = sched p 48 := ⟨_, rfl⟩
          rw [← hws] at H1 h64
          have HWS := Lib.hid hws
          have HWL := Lib.hid h64
          have hi8 := Lib.hid (show (Tryz.prog.info? 116).map (·.size) = some 8 by kernel_rfl)
          have hl8 := Lib.hid (show ∀ u : V8, (u32s u.l).size = 8 from fun u => by simp [u32s_size, V8.l])
          have B0' : Hid (Blk wr bk0 116 (u32s v.l)) := Lib.hid (B0.out.chg H3.out (fun h => by have h' : bk0 = bk2 := h; omega))
          have B1' : Hid (Blk wr bk1 116 (u32s (List.replicate 8 0))) := Lib.hid (B1.out.chg H3.out (fun h => by have h' : bk1 = bk2 := h; omega))
          have K1' : Hid (Blk wr gk 117 (u32s kSha)) := Lib.hid (HK1.out.chg H3.out (fun h => by have h' : gk = bk2 := h; omega))
          have HCH : Hid (Chg nowhere w wr) := Lib.hid (HC1.out.step H3.out (fun k hk => by have h' : k = bk2 := hk; have := HZ0.out; omega))
          clear hn hlen h64 hws
          go_wp2_with (first | (refine wpList_load_row rfl 116 _ rfl bk0 rfl 116 _ (0, 0) _ B0'.out Tryz.underlying116 rfl (by rw [hl8.out]; exact hi8.out) ?_) | (refine wpList_store_row rfl 116 _ _ rfl wr.heap.size (u32s v.l) rfl rfl 116 _ (heap_alloc_new wr _) (by rw [hl8.out]; exact hi8.out) (by rw [hl8.out]; rfl) (u32s_one _) ?_))
          rw [World.setRow_alloc_new]
          obtain ⟨w3, hw3⟩ : ∃ w3, w3 = wr.alloc (.cells (u32s v.l) 116) := ⟨_, rfl⟩
          obtain ⟨bk3, hbk3⟩ : ∃ z, z = wr.heap.size := ⟨_, rfl⟩
          rw [← hw3, ← hbk3]
          have C0 : Hid (Blk w3 bk0 116 (u32s v.l)) := Lib.hid (by rw [hw3]; exact B0'.out.alloc _)
          have C1 : Hid (Blk w3 bk1 116 (u32s (List.replicate 8 0))) := Lib.hid (by rw [hw3]; exact B1'.out.alloc _)
          have C2 : Hid (Blk w3 bk2 117 (u32s ws)) := Lib.hid (by rw [hw3]; exact H1.out.alloc _)
          have C3 : Hid (Blk w3 bk3 116 (u32s v.l)) := Lib.hid (by rw [hw3, hbk3]; exact Blk.new wr _ _)
          have CK : Hid (Blk w3 gk 117 (u32s kSha)) := Lib.hid (by rw [hw3]; exact K1'.out.alloc _)
          have CH : Hid (Chg nowhere w w3) := Lib.hid (by rw [hw3]; exact HCH.out.alloc _)
          have hbk3w : bk2 < bk3 := by rw [hbk3]; exact H1.out.lt
          have hbk3z : w.heap.size ≤ bk3 := by rw [hbk3]; exact HCH.out.size
          clear hw3 hbk3 H1 H3 B0' B1' K1' HCH
          have HW32 : Hid (∀ x ∈ ws, x < 4294967296) := Lib.hid (by rw [HWS.out]; exact sched_lt _ _)
          go_loopw [13, 14, 15, 16, 17] (fun t _ _ _ _ wr => ∃ (k : Nat) (u : V8), k ≤ 64 ∧ t = .int .i64 k ∧ u = V8.turn kSha ws k v ∧ Blk wr bk3 116 (u32s u.l) ∧ Chg (fun k => k = bk3) w3 wr) (fun t _ _ _ _ _ => 64 - (intOf t).toNat)
          case atStart => exact ⟨0, v, Nat.zero_le _, rfl, rfl, C3.out, Chg.refl _ _⟩
          case round =>
            obtain ⟨k, u, hk, rfl, hu, h1, h3⟩ := hrel
            have hok : u.ok := by rw [hu]; exact V8.ok_turn HV.out _ _ _
            have HU := Lib.hid hu
            have H1 := Lib.hid h1
            have H3 := Lib.hid h3
            clear hu h1 h3
            by_cases hlt : k < 64
            · have e1 : (k : Int) < 64 := by omega
              have cw : wr.cell? ⟨bk2, k, none⟩ = some (.int .u32 (ws.getD k 0 : Nat)) := by
                rw [(C2.out.chg H3.out (fun h => by have h' : bk2 = bk3 := h; omega)).cell]
                exact u32s_get _ _ (by have := HWL.out; omega)
              have ck : wr.cell? ⟨gk, k, none⟩ = some (.int .u32 (kSha.getD k 0 : Nat)) := by
                rw [(CK.out.chg H3.out (fun h => by have h' : gk = bk3 := h; omega)).cell]
                exact u32s_get _ _ (by have := kSha_len; omega)
              have hround : V8.turn kSha ws (k + 1) v = u.round (kSha.getD k 0) (ws.getD k 0) := by rw [HU.out]; rfl
              have lw := getD_lt HW32.out k
              have lk := getD_lt kSha_lt k
              generalize ws.getD k 0 = wk at *
              generalize kSha.getD k 0 = kk at *
              have HRD := Lib.hid hround
              clear hround
              rcases u with ⟨a, b, c8, d, e, f, g', h8⟩
              obtain ⟨la, lb, lc, ld, le, lf, lg, lh⟩ := hok
              dsimp only at la lb lc ld le lf lg lh ⊢
              have d0 : wr.cell? ⟨bk3, 0, none⟩ = some (.int .u32 (a : Int)) := H1.out.cell 0
              have d1 : wr.cell? ⟨bk3, 1, none⟩ = some (.int .u32 (b : Int)) := H1.out.cell 1
              have d2 : wr.cell? ⟨bk3, 2, none⟩ = some (.int .u32 (c8 : Int)) := H1.out.cell 2
              have d3 : wr.cell? ⟨bk3, 3, none⟩ = some (.int .u32 (d : Int)) := H1.out.cell 3
              have d4 : wr.cell? ⟨bk3, 4, none⟩ = some (.int .u32 (e : Int)) := H1.out.cell 4
              have d5 : wr.cell? ⟨bk3, 5, none⟩ = some (.int .u32 (f : Int)) := H1.out.cell 5
              have d6 : wr.cell? ⟨bk3, 6, none⟩ = some (.int .u32 (g' : Int)) := H1.out.cell 6
              have d7 : wr.cell? ⟨bk3, 7, none⟩ = some (.int .u32 (h8 : Int)) := H1.out.cell 7
              obtain ⟨xa, hxa⟩ : ∃ z, z = rotr 6 e ^^^ rotr 11 e := ⟨_, rfl⟩
              obtain ⟨xb, hxb⟩ : ∃ z, z = bsig1 e := ⟨_, rfl⟩
              have a1 := @rotr_lt 6 e le (by decide) (by decide)
              have a2 := @rotr_lt 11 e le (by decide) (by decide)
              have a3 := @rotr_lt 25 e le (by decide) (by decide)
              have a4 : xa < 4294967296 := by rw [hxa]; exact xor_lt a1 a2
              have q1 := u32_xor_eq _ _ xa hxa a1 a2
              have q2 := u32_xor_eq xa _ xb (by rw [hxb, hxa]; rfl) a4 a3
              have q1' : bits .xor .u32 ((rotr (Int.toNat 6) e : Nat) : Int) ((rotr (Int.toNat 11) e : Nat) : Int) = xa := q1
              have q2' : bits .xor .u32 (xa : Int) ((rotr (Int.toNat 25) e : Nat) : Int) = xb := q2
              obtain ⟨ya, hya⟩ : ∃ z, z = e &&& f := ⟨_, rfl⟩
              obtain ⟨ne, hne⟩ : ∃ z, z = 4294967295 - e := ⟨_, rfl⟩
              obtain ⟨yb, hyb⟩ : ∃ z, z = ne &&& g' := ⟨_, rfl⟩
              obtain ⟨yc, hyc⟩ : ∃ z, z = ch32 e f g' := ⟨_, rfl⟩
              have a5 : ya < 4294967296 := by rw [hya]; exact and_lt _ le
              have a6 : ne < 4294967296 := by omega
              have a7 : yb < 4294967296 := by rw [hyb]; exact and_lt _ a6
              have q3 := u32_and_eq e f ya hya le lf
              have q4 := u32_not' e le
              rw [← hne] at q4
              have q5 := u32_and_eq ne g' yb hyb a6 lg
              have q6 := u32_xor_eq ya yb yc (by rw [hyc, hya, hyb, hne]; rfl) a5 a7
              obtain ⟨t1, ht1⟩ : ∃ z, z = add32 h8 xb := ⟨_, rfl⟩
              obtain ⟨t2, ht2⟩ : ∃ z, z = add32 t1 yc := ⟨_, rfl⟩
              obtain ⟨t3, ht3⟩ : ∃ z, z = add32 t2 kk := ⟨_, rfl⟩
              obtain ⟨t4, ht4⟩ : ∃ z, z = add32 t3 wk := ⟨_, rfl⟩
              have p1 := u32_add_eq h8 xb t1 ht1
              have p2 := u32_add_eq t1 yc t2 ht2
              have p3 := u32_add_eq t2 kk t3 ht3
              have p4 := u32_add_eq t3 wk t4 ht4
              have p5 : ((t1 : Int) + (yc : Int) + (kk : Int) + (wk : Int)) % 4294967296 = (t4 : Int) := by rw [ht4, ht3, ht2]; unfold add32; omega
              have HT1 : Hid (t4 = V8.t1 ⟨a, b, c8, d, e, f, g', h8⟩ kk wk) := Lib.hid (by rw [ht4, ht3, ht2, ht1, hxb, hyc]; rfl)
              have lt4 : t4 < 4294967296 := by rw [ht4]; exact add32_lt _ _
              clear hxa hxb hya hne hyb hyc ht1 ht2 ht3 ht4
              obtain ⟨xc, hxc⟩ : ∃ z, z = rotr 2 a ^^^ rotr 13 a := ⟨_, rfl⟩
              obtain ⟨xd, hxd⟩ : ∃ z, z = bsig0 a := ⟨_, rfl⟩
              have a1b := @rotr_lt 2 a la (by decide) (by decide)
              have a2b := @rotr_lt 13 a la (by decide) (by decide)
              have a3b := @rotr_lt 22 a la (by decide) (by decide)
              have a8 : xc < 4294967296 := by rw [hxc]; exact xor_lt a1b a2b
              have r1 := u32_xor_eq _ _ xc hxc a1b a2b
              have r1' : bits .xor .u32 ((rotr (Int.toNat 2) a : Nat) : Int) ((rotr (Int.toNat 13) a : Nat) : Int) = xc := r1
              have r2 := u32_xor_eq xc _ xd (by rw [hxd, hxc]; rfl) a8 a3b
              have r2' : bits .xor .u32 (xc : Int) ((rotr (Int.toNat 22) a : Nat) : Int) = xd := r2
              obtain ⟨za, hza⟩ : ∃ z, z = a &&& b := ⟨_, rfl⟩
              obtain ⟨zb, hzb⟩ : ∃ z, z = a &&& c8 := ⟨_, rfl⟩
              obtain ⟨zc, hzc⟩ : ∃ z, z = b &&& c8 := ⟨_, rfl⟩
              obtain ⟨zd, hzd⟩ : ∃ z, z = za ^^^ zb := ⟨_, rfl⟩
              obtain ⟨ze, hze⟩ : ∃ z, z = maj32 a b c8 := ⟨_, rfl⟩
              have b1 : za < 4294967296 := by rw [hza]; exact and_lt _ la
              have b2 : zb < 4294967296 := by rw [hzb]; exact and_lt _ la
              have b3 : zc < 4294967296 := by rw [hzc]; exact and_lt _ lb
              have b4 : zd < 4294967296 := by rw [hzd]; exact xor_lt b1 b2
              have r3 := u32_and_eq a b za hza la lb
              have r4 := u32_and_eq a c8 zb hzb la lc
              have r5 := u32_and_eq b c8 zc hzc lb lc
              have r6 := u32_xor_eq za zb zd hzd b1 b2
              have r7 := u32_xor_eq zd zc ze (by rw [hze, hzd, hza, hzb, hzc]; rfl) b4 b3
              obtain ⟨u2, hu2⟩ : ∃ z, z = add32 xd ze := ⟨_, rfl⟩
              obtain ⟨na, hna⟩ : ∃ z, z = add32 t4 u2 := ⟨_, rfl⟩
              obtain ⟨nd, hnd⟩ : ∃ z, z = add32 d t4 := ⟨_, rfl⟩
              have m1 := u32_add_mod xd ze u2 hu2
              have m1' := u32_add_eq xd ze u2 hu2
              have m2 := u32_add_mod t4 u2 na hna
              have m2' := u32_add_eq t4 u2 na hna
              have m3 := u32_add_mod d t4 nd hnd
              have m3' := u32_add_eq d t4 nd hnd
              have HR : Hid (V8.turn kSha ws (k + 1) v = ⟨na, a, b, c8, nd, e, f, g'⟩) := Lib.hid (by
                rw [HRD.out, hna, hnd, hu2, hxd, hze, HT1.out]
                rfl)
              clear hxc hxd hza hzb hzc hzd hze hu2 hna hnd
              go_wp2_with fail
              refine wp_region_still_lit (by kernel_rfl) (by kernel_rfl) ?_
              repeat still_step
              refine wpStill_nil ?_
              show Exit.then _ _ _ _ (World.drew wr)
              replace cw : (World.drew wr).cell? _ = _ := cw
              replace ck : (World.drew wr).cell? _ = _ := ck
              replace d0 : (World.drew wr).cell? _ = _ := d0
              replace d1 : (World.drew wr).cell? _ = _ := d1
              replace d2 : (World.drew wr).cell? _ = _ := d2
              replace d3 : (World.drew wr).cell? _ = _ := d3
              replace d4 : (World.drew wr).cell? _ = _ := d4
              replace d5 : (World.drew wr).cell? _ = _ := d5
              replace d6 : (World.drew wr).cell? _ = _ := d6
              replace d7 : (World.drew wr).cell? _ = _ := d7
              replace H1 : Hid (Blk (World.drew wr) bk3 116 (u32s (V8.mk a b c8 d e f g' h8).l)) := H1
              replace H3 : Hid (Chg (fun k => k = bk3) w3 (World.drew wr)) := Lib.hid H3.out.drew
              generalize World.drew wr = wq1 at *
              go_wp2_with fail
              refine wp_region_still_lit (by kernel_rfl) (by kernel_rfl) ?_
              repeat (first | still_step | still_call (refR_any _ _ _ (by decide) (by decide) le))
              refine wpStill_nil ?_
              show Exit.then _ _ _ _ (World.drew wq1)
              replace cw : (World.drew wq1).cell? _ = _ := cw
              replace ck : (World.drew wq1).cell? _ = _ := ck
              replace d0 : (World.drew wq1).cell? _ = _ := d0
              replace d1 : (World.drew wq1).cell? _ = _ := d1
              replace d2 : (World.drew wq1).cell? _ = _ := d2
              replace d3 : (World.drew wq1).cell? _ = _ := d3
              replace d4 : (World.drew wq1).cell? _ = _ := d4
              replace d5 : (World.drew wq1).cell? _ = _ := d5
              replace d6 : (World.drew wq1).cell? _ = _ := d6
              replace d7 : (World.drew wq1).cell? _ = _ := d7
              replace H1 : Hid (Blk (World.drew wq1) bk3 116 (u32s (V8.mk a b c8 d e f g' h8).l)) := H1
              replace H3 : Hid (Chg (fun k => k = bk3) w3 (World.drew wq1)) := Lib.hid H3.out.drew
              generalize World.drew wq1 = wq2 at *
              go_wp2_with fail
              refine wp_region_still_lit (by kernel_rfl) (by kernel_rfl) ?_
              repeat (first | still_step | still_call (refR_any _ _ _ (by decide) (by decide) la))
              refine wpStill_nil ?_
              show Exit.then _ _ _ _ (World.drew wq2)
              replace cw : (World.drew wq2).cell? _ = _ := cw
              replace ck : (World.drew wq2).cell? _ = _ := ck
              replace d0 : (World.drew wq2).cell? _ = _ := d0
              replace d1 : (World.drew wq2).cell? _ = _ := d1
              replace d2 : (World.drew wq2).cell? _ = _ := d2
              replace d3 : (World.drew wq2).cell? _ = _ := d3
              replace d4 : (World.drew wq2).cell? _ = _ := d4
              replace d5 : (World.drew wq2).cell? _ = _ := d5
              replace d6 : (World.drew wq2).cell? _ = _ := d6
              replace d7 : (World.drew wq2).cell? _ = _ := d7
              replace H1 : Hid (Blk (World.drew wq2) bk3 116 (u32s (V8.mk a b c8 d e f g' h8).l)) := H1
              replace H3 : Hid (Chg (fun k => k = bk3) w3 (World.drew wq2)) := Lib.hid H3.out.drew
              generalize World.drew wq2 = wq3 at *
              go_wp2_with (refine wpList_store_row rfl 116 _ _ rfl bk3 (u32s (V8.mk na a b c8 nd e f g').l) rfl rfl 116 _ H1.out (by rw [hl8.out]; exact hi8.out) (by rw [hl8.out, hl8.out]) (u32s_one _) ?_)
              exact ⟨⟨k + 1, ⟨na, a, b, c8, nd, e, f, g'⟩, by omega, by go_num, HR.out.symm, H1.out.row_ _, H3.out.setRow (fun _ => rfl) _⟩, by simp [intOf]; omega⟩
            · have e1 : (64 : Int) ≤ k := by omega
              obtain rfl : k = 64 := by omega
              have D0 : Hid (Blk wr bk0 116 (u32s v.l)) := Lib.hid (C0.out.chg H3.out (fun h => by have h' : bk0 = bk3 := h; omega))
              have D1 : Hid (Blk wr bk1 116 (u32s (List.replicate 8 0))) := Lib.hid (C1.out.chg H3.out (fun h => by have h' : bk1 = bk3 := h; omega))
              have DH : Hid (Chg nowhere w wr) := Lib.hid (CH.out.step H3.out (fun k hk => by have h' : k = bk3 := hk; omega))
              have hr8' : Hid ((v.add u) = r8) := Lib.hid (by rw [hr8.out, HU.out, HWS.out]; rfl)
              have hfin := Lib.hid (addPart_end v u)
              go_wp2_with fail
              go_loopw [18] (fun t wz => ∃ k : Nat, k ≤ 8 ∧ t = .int .i64 k ∧ Blk wz bk0 116 (u32s (addPart v u k)) ∧ Blk wz bk3 116 (u32s u.l) ∧ Blk wz bk1 116 (u32s (List.replicate 8 0)) ∧ Chg nowhere w wz) (fun t _ => 8 - (intOf t).toNat)
              case atStart => exact ⟨0, Nat.zero_le _, rfl, D0.out, H1.out, D1.out, DH.out⟩
              case round =>
                obtain ⟨k, hk, rfl, h1, h2, h3, h4⟩ := hrel
                have G1 := Lib.hid h1
                have G2 := Lib.hid h2
                have G3 := Lib.hid h3
                have G4 := Lib.hid h4
                clear h1 h2 h3 h4
                by_cases hlt : k < 8
                · have e2 : (k : Int) < 8 := by omega
                  have hc : wr.cell? ⟨bk0, k, none⟩ = some (.int .u32 (v.l.getD k 0 : Nat)) := by
                    rw [G1.out.cell, u32s_get _ _ (by rw [addPart_len]; omega), addPart_get _ _ _ hlt]
                  have hf : wr.frozen? ⟨bk0, k, none⟩ = false := G1.out.frozen k
                  have hc2 : wr.cell? ⟨bk3, k, none⟩ = some (.int .u32 (u.l.getD k 0 : Nat)) := by
                    rw [G2.out.cell, u32s_get _ _ (by simp [V8.l]; omega)]
                  obtain ⟨z, hz⟩ : ∃ z, z = add32 (v.l.getD k 0) (u.l.getD k 0) := ⟨_, rfl⟩
                  have HN := Lib.hid (G1.out.set_ k (.int .u32 (z : Int)))
                  rw [u32s_set, hz, addPart_set, ← hz] at HN
                  have HN2 := Lib.hid (G2.out.far (p := ⟨bk0, k, none⟩) (by show bk3 ≠ bk0; omega) (.int .u32 (z : Int)))
                  have HN3 := Lib.hid (G3.out.far (p := ⟨bk0, k, none⟩) (by show bk1 ≠ bk0; omega) (.int .u32 (z : Int)))
                  have HC := Lib.hid (G4.out.setCell (p := ⟨bk0, k, none⟩) (fun h => by have h' : bk0 < w.heap.size := h; have := HZ0.out; omega) (.int .u32 (z : Int)))
                  generalize v.l.getD k 0 = x at *
                  generalize u.l.getD k 0 = y at *
                  have p1 := u32_add_eq x y z hz
                  clear hz
                  go_wp2_with fail
                  go_still_tail 9, (by kernel_rfl)
                  change wpList _ _ _ _ _ (World.drew _)
                  go_wp2_with fail
                  refine ⟨?_, by simp [intOf]; omega⟩
                  first | exact ⟨k + 1, by omega, by go_num, HN.out, HN2.out, HN3.out, HC.out.drew⟩ | ((repeat apply Exists.intro); exact ⟨⟨k + 1, by omega, by go_num, HN.out, HN2.out, HN3.out, HC.out.drew⟩, rfl⟩)
                · have e2 : (8 : Int) ≤ k := by omega
                  obtain rfl : k = 8 := by omega
                  rw [hfin.out, hr8'.out] at G1
                  go_wp2_with (first | (refine wpList_load_row rfl 116 _ rfl bk0 rfl 116 _ (0, 0) _ G1.out Tryz.underlying116 rfl (by rw [hl8.out]; exact hi8.out) ?_) | (refine wpList_store_row rfl 116 _ _ rfl bk1 (u32s r8.l) rfl rfl 116 _ G3.out (by rw [hl8.out]; exact hi8.out) (by rw [hl8.out]; rfl) (u32s_one _) ?_))
                  refine bodyPost_ret (v := .agg (u32s r8.l)) (results_cell_row rfl _ _ bk1 116 _ (0, 0) _ rfl (G3.out.row_ _) Tryz.underlying116 rfl (by rw [hl8.out]; exact hi8.out)) rfl ⟨rfl, ?_⟩
                  exact G4.out.setRow (fun h => by have := HZ0.out; omega) _
end Go.Proofs.YtmnapacibpnodaaGreat
