/- RlE -/
import Derived.Test.YtgjnjhhhbkidbaaGreatUdRsE
import Derived.Test.YtgjnjhhhbkidbaaGreatUdRoD
open Go Go.RowKit
namespace Go.Proofs.YtgjnjhhhbkidbaaGreat
/-- the row of one key -/
def kr1 (z : Nat) (h : H32) : KR := ⟨some ⟨z, 0, none⟩, 1, 1, [h], 1⟩
/-- a root's keys: the root's own, and the one of all other roles -/
def roK (root onl : H32) : List (List H32 × Int) := [([root], 1), ([onl], 1), ([onl], 1), ([onl], 1)]
theorem rt_set0 (v e : Int) (K : List KR) (z : Nat) (a b : H32) (h : 0 < K.length) (hg : gt K 0 = kr1 z a) : rtL v e (K.set 0 (kr1 z b)) = rtL v e K := by
  cases K with
  | nil => cases h
  | cons k K =>
    have e : k = kr1 z a := hg
    subst e
    rfl
theorem kin1 {w : World} {z : Nat} {h : H32} {t : TypeId} (hb : HB w z t (u8s h.l)) : KIn w (kr1 z h) := ⟨by
  have e9 : cellsOf [h] = (u8s h.l).toList := by
    show bs h.l ++ [] = _
    rw [List.append_nil]
    rfl
  show Rd w _ (cellsOf [h])
  rw [e9]
  exact hb.rdL, rfl, Nat.le_refl _, by show 1 ≤ 1000; decide⟩
theorem four_of {K : List KR} (h : K.length = 4) : K = [gt K 0, gt K 1, gt K 2, gt K 3] := by
  match K, h with
  | [a, b, c, d], _ => rfl
theorem isB_one (h : H32) : isB [h] 1 = true := rfl
theorem rootB_ok (v : Int) (root onl : H32) (h : verB v = true) : rootB v 1073741824 (roK root onl) = true := by
  unfold rootB roK
  simp [h, numB, isB_one]
set_option maxRecDepth 100000 in
set_option maxHeartbeats 3200000 in
theorem rootOfM_calls (v : Int) (root onl : H32) (w : World) :
    Calls Tryz.prog 36 #[.int .i64 v, .agg (u8s root.l), .agg (u8s onl.l)] w fun e w' => ∃ K : List KR, e = .returned (.agg (rtL v 1073741824 K).toArray) ∧ K.length = 4 ∧ Step nowhere w w' ∧ Hid ((∀ k ∈ K, KIn w' k) ∧ K.map KR.m = roK root onl) := by
  have kbo : ∀ w, _ := run_oneHW onl
  have kbv := run_rootV v 1073741824
  go_enter Tryz.func36, Tryz.ntmps36
  go_wp2_with (first | ((with_reducible apply wpl_build); (exact kbv _)) | ((with_reducible apply (wpl_box_agg (dst := some 4))); (exact rfl); intro zr wzr _ _ _) | ((with_reducible apply (wpl_box_agg (dst := some 5))); (exact rfl); intro zn wzn _ _ _) | ((with_reducible apply (wpl_alloc (dst := some 6))); intro zo wzo _ _ _) | ((with_reducible apply (wpl_alloc (dst := some 7))); intro z7 wz7 _ _ _) | ((with_reducible apply wpl_storerow); (exact rfl); (exact rfl); infer_instance; infer_instance; (first | (with_reducible assumption) | (with_reducible exact H32.size _) | kernel_rfl); (first | (with_reducible assumption) | (with_reducible exact H32.size _) | kernel_rfl); (first | (with_reducible exact u8s_one _) | (with_reducible assumption) | kernel_rfl); intro ws _ _))
  have kbk : ∀ (a : Option Addr) (w : World), (Instr.build 91 #[(0, .slice a 1 1), (1, .int .i64 1)]).run Tryz.prog w = .ok (.agg (RowC.enc (⟨a, 1, 1, [onl], 1⟩ : KR)).toArray) w := fun a w => run_keysKR ⟨a, 1, 1, [onl], 1⟩ w
  have hbr : HB ws zr 23 (u8s root.l) := inferInstance
  have hbn : HB ws zn 23 (u8s onl.l) := inferInstance
  have hbo : HB ws zo 94 (rtL 0 0 noK).toArray := inferInstance
  have hb7 : HB ws z7 94 (rtL v 1073741824 noK).toArray := inferInstance
  have nws : Nw w ws := ⟨(stepN (w0 := w) (w := ws)).chg⟩
  have e1 : zr = w.heap.size := (inferInstance : Born w zr).eq
  have e2 : zn = wzr.heap.size := (inferInstance : Born wzr zn).eq
  have e3 : zo = wzn.heap.size := (inferInstance : Born wzn zo).eq
  have e4 : z7 = wzo.heap.size := (inferInstance : Born wzo z7).eq
  have l1 : zr < wzr.heap.size := (inferInstance : HB wzr zr 23 (u8s root.l)).out.lt
  have l2 : zn < wzn.heap.size := (inferInstance : HB wzn zn 23 (u8s onl.l)).out.lt
  have l3 : zo < wzo.heap.size := (inferInstance : HB wzo zo 94 (rtL 0 0 noK).toArray).out.lt
  have s1 : w.heap.size ≤ wzr.heap.size := (inferInstance : SzLe w wzr).out
  have s2 : wzr.heap.size ≤ wzn.heap.size := (inferInstance : SzLe wzr wzn).out
  have s3 : wzn.heap.size ≤ wzo.heap.size := (inferInstance : SzLe wzn wzo).out
  have HD : Hid (zr ≠ z7 ∧ zn ≠ z7 ∧ zo ≠ z7 ∧ zo ≠ zr ∧ zo ≠ zn ∧ w.heap.size ≤ z7 ∧ w.heap.size ≤ zo) := Lib.hid ⟨by omega, by omega, by omega, by omega, by omega, by omega, by omega⟩
  have o7r : OffB (only z7) zr := ⟨HD.out.1⟩
  have o7n : OffB (only z7) zn := ⟨HD.out.2.1⟩
  have o7o : OffB (only z7) zo := ⟨HD.out.2.2.1⟩
  have a7 : Above w (only z7) := ⟨fun x h => by have h' : x = z7 := h; have := HD.out.2.2.2.2.2.1; omega⟩
  clear e1 e2 e3 e4 l1 l2 l3 s1 s2 s3
  go_loopw [11] (fun iv wr => ∃ (k : Nat) (K : List KR), k ≤ 4 ∧ iv = .int .i64 (k : Int) ∧ K.length = 4 ∧ Nw w wr ∧ HB wr zr 23 (u8s root.l) ∧ HB wr zn 23 (u8s onl.l) ∧ HB wr zo 94 (rtL 0 0 noK).toArray ∧ HB wr z7 94 (rtL v 1073741824 K).toArray ∧ Hid (∃ Z : Nat → Nat, (∀ i, i < k → gt K i = kr1 (Z i) onl ∧ HB wr (Z i) 23 (u8s onl.l) ∧ Z i ≠ z7 ∧ Z i ≠ zo ∧ Z i ≠ zr ∧ w.heap.size ≤ Z i) ∧ ∀ i j, i < j → j < k → Z i ≠ Z j)) (fun iv _ => 4 - (intOf iv).toNat)
  case atStart => exact ⟨0, noK, Nat.zero_le _, rfl, rfl, nws, hbr, hbn, hbo, hb7, Lib.hid ⟨fun _ => 0, fun i h => absurd h (Nat.not_lt_zero _), fun i j _ h => absurd h (Nat.not_lt_zero _)⟩⟩
  case round =>
    clear nws hbr hbn hbo hb7
    obtain ⟨k, K, hk, rfl, hK, nwr, hbr, hbn, hbo, hb7, hz⟩ := hrel
    by_cases hlt : k < 4
    · have hltI : (k : Int) < 4 := by omega
      have hkl : k < K.length := by omega
      go_wp2_with (first | ((with_reducible apply (stop_dst (dst := some 16))); (try simp only [Act.put, sA, sB, sC]); ((with_reducible apply (wpl_bslice (dst := some 16))); (exact kbo _); intro zb wb _ _ _)) | ((with_reducible apply wpl_build); (exact kbk _ _)) | ((with_reducible apply (wpl_indexRK (i := k) (m := 4))); (exact rfl); (exact rfl); (exact Tryz.underlying92); (kernel_rfl); (exact hlt)) | ((with_reducible apply (wpl_storeRK (i := k))); (exact rfl); (exact rfl); infer_instance; infer_instance; (exact hkl); intro wx stx hbx) | ((with_reducible apply wpl_loadrow); (exact rfl); infer_instance; infer_instance; (first | (with_reducible assumption) | (with_reducible exact H32.size _) | kernel_rfl)))
      have hzb : wr.heap.size ≤ zb := Nat.le_of_eq (inferInstance : Born wr zb).eq.symm
      have hrl := hbr.out.lt
      have hol := hbo.out.lt
      have h7l := hb7.out.lt
      have hsw := nwr.out.size
      have nwx : Nw w wx := inferInstance
      refine ⟨⟨k + 1, K.set k (kr1 zb onl), by omega, by go_num, by rw [List.length_set]; exact hK, nwx, inferInstance, inferInstance, inferInstance, hbx, Lib.hid ?_⟩, by simp [intOf]; omega⟩
      obtain ⟨Z, hZ1, hZ2⟩ := hz.out
      refine ⟨fun i => if i = k then zb else Z i, fun i hi => ?_, fun i j hij hj => ?_⟩
      · by_cases hik : i = k
        · subst hik
          have o7b : OffB (only z7) zb := ⟨fun e => by have e' : zb = z7 := e; omega⟩
          have hzz : HB wx zb 23 (u8s onl.l) := inferInstance
          dsimp only
          rw [if_pos rfl]
          exact ⟨gt_setK K i _ hkl, hzz, by omega, by omega, by omega, by omega⟩
        · obtain ⟨q1, hb0, d1, d2, d3, d4⟩ := hZ1 i (by omega)
          have o70 : OffB (only z7) (Z i) := ⟨d1⟩
          have hzz : HB wx (Z i) 23 (u8s onl.l) := inferInstance
          dsimp only
          rw [if_neg hik]
          exact ⟨by rw [gt_setK2 K k i _ hik]; exact q1, hzz, d1, d2, d3, d4⟩
      · have hi0 : i ≠ k := by omega
        dsimp only
        rw [if_neg hi0]
        by_cases hjk : j = k
        · rw [if_pos hjk]
          have h9 := (hZ1 i (by omega)).2.1.out.lt
          omega
        · rw [if_neg hjk]
          exact hZ2 i j hij (by omega)
    · have hltI : ¬ (k : Int) < 4 := by omega
      have hk4 : 0 < k := by omega
      have hkl0 : 0 < K.length := by omega
      obtain ⟨Z, hZ1, hZ2⟩ := hz.out
      obtain ⟨hg0, hb0, d1, d2, d3, d4⟩ := hZ1 0 (by omega)
      obtain ⟨hg1, hb1, a1, a2, a3, a4⟩ := hZ1 1 (by omega)
      obtain ⟨hg2, hb2, b1, b2, b3, b4⟩ := hZ1 2 (by omega)
      obtain ⟨hg3, hb3, c1, c2, c3, c4⟩ := hZ1 3 (by omega)
      have n01 := hZ2 0 1 (by omega) (by omega)
      have n02 := hZ2 0 2 (by omega) (by omega)
      have n03 := hZ2 0 3 (by omega) (by omega)
      obtain ⟨z0, hz0⟩ : ∃ z, z = Z 0 := ⟨_, rfl⟩
      obtain ⟨z1, hz1⟩ : ∃ z, z = Z 1 := ⟨_, rfl⟩
      obtain ⟨z2, hz2⟩ : ∃ z, z = Z 2 := ⟨_, rfl⟩
      obtain ⟨z3, hz3⟩ : ∃ z, z = Z 3 := ⟨_, rfl⟩
      rw [← hz0] at hg0 hb0 d1 d2 d3 d4 n01 n02 n03
      rw [← hz1] at hg1 hb1 n01 a2
      rw [← hz2] at hg2 hb2 n02 b2
      rw [← hz3] at hg3 hb3 n03 c2
      clear hZ1 hZ2 hz0 hz1 hz2 hz3 hz
      have o01 : OffB (only z0) z1 := ⟨fun e => n01 (show z1 = z0 from e).symm⟩
      have o02 : OffB (only z0) z2 := ⟨fun e => n02 (show z2 = z0 from e).symm⟩
      have o03 : OffB (only z0) z3 := ⟨fun e => n03 (show z3 = z0 from e).symm⟩
      have oo0 : OffB (only zo) z0 := ⟨d2⟩
      have oo1 : OffB (only zo) z1 := ⟨a2⟩
      have oo2 : OffB (only zo) z2 := ⟨b2⟩
      have oo3 : OffB (only zo) z3 := ⟨c2⟩
      have hc2 : nth (rtL v 1073741824 K).toArray.toList 2 = some (.slice (some ⟨z0, 0, none⟩) 1 1) := by rw [rt_2 _ _ _ hkl0, hg0]; rfl
      have o0r : OffB (only z0) zr := ⟨fun e => d3 (show zr = z0 from e).symm⟩
      have o0o : OffB (only z0) zo := ⟨fun e => d2 (show zo = z0 from e).symm⟩
      have o07 : OffB (only z0) z7 := ⟨fun e => d1 (show z7 = z0 from e).symm⟩
      have ooo : OffB (only zo) z7 := ⟨fun e => HD.out.2.2.1 (show z7 = zo from e).symm⟩
      have a0 : Above w (only z0) := ⟨fun x h => by have h' : x = z0 := h; omega⟩
      have ao : Above w (only zo) := ⟨fun x h => by have h' : x = zo := h; have := HD.out.2.2.2.2.2.2; omega⟩
      have hsz := rtL_len v 1073741824 K hK
      have hone := rtL_one v 1073741824 K
      have hrH : HR wr (some ⟨z0, 0, none⟩) (cellsOf [onl]) := ⟨by
        have h9 := hb0.rdL
        have e9 : cellsOf [onl] = (u8s onl.l).toList := by
          show bs onl.l ++ [] = _
          rw [List.append_nil]
          rfl
        rw [e9]
        exact h9⟩
      have HG := Lib.hid (And.intro hg0 (And.intro hg1 (And.intro hg2 hg3)))
      clear hg0 hg1 hg2 hg3
      go_wp2_with (first | ((with_reducible apply (wpl_loadcellN (k := 2))); (exact rfl); (exact hb7); (exact hc2)) | ((with_reducible apply wpl_loadrow); (exact rfl); infer_instance; infer_instance; (first | (with_reducible assumption) | (with_reducible exact H32.size _) | kernel_rfl)) | ((with_reducible apply wpl_storerow); (exact rfl); (exact rfl); infer_instance; infer_instance; (first | (with_reducible assumption) | (with_reducible exact H32.size _) | kernel_rfl); (first | (with_reducible assumption) | (with_reducible exact H32.size _) | kernel_rfl); (first | (with_reducible exact u8s_one _) | (with_reducible assumption) | kernel_rfl); intro ws _ _))
      have hwf : HB ws z0 23 (u8s root.l) := inferInstance
      have hw1 : HB ws z1 23 (u8s onl.l) := inferInstance
      have hw2 : HB ws z2 23 (u8s onl.l) := inferInstance
      have hw3 : HB ws z3 23 (u8s onl.l) := inferInstance
      have hrt := rt_set0 v 1073741824 K z0 onl root hkl0 HG.out.1
      have hKe : K.set 0 (kr1 z0 root) = [kr1 z0 root, kr1 z1 onl, kr1 z2 onl, kr1 z3 onl] := by
        rw [four_of hK, HG.out.1, HG.out.2.1, HG.out.2.2.1, HG.out.2.2.2]
        rfl
      refine ret_row rfl rfl (n := 10) hsz rfl ⟨K.set 0 (kr1 z0 root), by rw [hrt], by rw [List.length_set]; exact hK, stepN, Lib.hid ⟨?_, ?_⟩⟩
      · rw [hKe]
        intro k hk
        simp only [List.mem_cons, List.not_mem_nil, or_false] at hk
        rcases hk with rfl | rfl | rfl | rfl
        · exact kin1 hwf
        · exact kin1 hw1
        · exact kin1 hw2
        · exact kin1 hw3
      · rw [hKe]
        rfl
end Go.Proofs.YtgjnjhhhbkidbaaGreat
