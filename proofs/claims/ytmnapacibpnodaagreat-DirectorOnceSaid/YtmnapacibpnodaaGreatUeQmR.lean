/- OtQ, KyD, QmA, OtKm, QmR -/
import Derived.Test.YtmnapacibpnodaaGreatUeOtP
import Derived.Test.YtmnapacibpnodaaGreatUeKyP
import Derived.Test.YtmnapacibpnodaaGreatUeMapH
import Derived.Test.YtmnapacibpnodaaGreatUeSnM
import Derived.Test.YtmnapacibpnodaaGreatUeHashes
section
open Go Go.RowKit
namespace Go.Proofs.YtmnapacibpnodaaGreat
set_option maxRecDepth 100000 in
set_option maxHeartbeats 800000 in
theorem rwalk_calls (h : H32) (chain f t : Int) (w : World) :
    Calls Tryz.prog 25 #[.agg (u8s h.l), .int .i64 chain, .int .i64 f, .int .i64 t] w fun e w' => e = .returned (.agg (u8s (walkS chain f t h).l)) ∧ Step nowhere w w' := by
  obtain ⟨s, hs⟩ : ∃ s : Nat, (s : Int) = max f 0 := ⟨(max f 0).toNat, by omega⟩
  have hs' : max f 0 = (s : Int) := hs.symm
  obtain ⟨n, hn⟩ : ∃ n : Nat, n = (min t 3 - max f 0).toNat := ⟨_, rfl⟩
  have HN := Lib.hid hn
  have HS : Hid ((max f 0).toNat = s) := Lib.hid (by omega)
  have hn1 : (s : Int) + n ≤ 3 ∨ n = 0 := by omega
  have hn2 : ∀ k : Nat, k < n → (s : Int) + k < min t 3 := fun k hk => by omega
  have HE : Hid (∀ k : Nat, k ≤ n → ¬ k < n → ¬ (s : Int) + k < min t 3) := Lib.hid (fun k h1 h2 => by omega)
  have HL := Lib.hid hn2
  clear hn hs hn2
  go_enter Tryz.func25, Tryz.ntmps25
  go_wp2_with (first | ((with_reducible apply (wpl_box_agg (dst := some 4))); (exact rfl); intro zh wzh _ _ _) | ((with_reducible apply (wpl_alloc (dst := some 8))); intro zo wzo _ _ _) | ((with_reducible apply wpl_max); (exact rfl); (exact rfl)))
  go_loopw [9] (fun i wr => ∃ k : Nat, k ≤ n ∧ i = .int .i64 ((s : Int) + k) ∧ Step nowhere w wr ∧ HB wr zo 26 (u8s zeroH.l) ∧ HB wr zh 26 (u8s (walkN chain s k h).l)) (fun i _ => (s + n) - (intOf i).toNat)
  case atStart => exact ⟨0, Nat.zero_le _, by rw [Int.natCast_zero, Int.add_zero], stepN, inferInstance, inferInstance⟩
  case round =>
    obtain ⟨k, hk, rfl, _, _, _⟩ := hrel
    by_cases hlt : k < n
    · have hlt3 := HL.out k hlt
      have kb2 : ∀ w, (Instr.buildSlice 34 3 #[(0, .int .u8 1), (1, .int .u8 (chain % 256)), (2, .int .u8 ((s : Int) + k))]).run Tryz.prog w = .ok (.slice (some ⟨w.heap.size, 0, none⟩) 3 3) (w.alloc (.cells (u8s [1, b8 chain, b8 ((s : Int) + k)]) 5)) := fun _ => by rw [mod_b8, b8_in (n := (s : Int) + k) (by omega) (by omega), b8_self]; kernel_rfl
      have hm1 : Fact' ([(1 : UInt8), b8 chain, b8 ((s : Int) + k)].length ≤ maxLen) := ⟨by simp [maxLen]⟩
      go_wp2_with (first | ((with_reducible apply wpl_bslice); (exact kb2 _); intro zb wb _ _ _) | ((with_reducible apply wpl_min); (exact rfl); (exact rfl)) | ((with_reducible apply wpl_appendB); (exact rfl); (exact rfl); infer_instance; (first | exact inferInstance | exact ⟨Own.nil _ _ _⟩); infer_instance; (first | (with_reducible assumption) | (with_reducible exact H32.len _) | (focus (simp; done)) | omega); (first | (with_reducible assumption) | omega); intro A' c' wa _ _ _ hcap))
      refine (rsum_calls (xs := [1, b8 chain, b8 ((s : Int) + k)] ++ (walkN chain s k h).l) (by simp) (by decide)).mono ?_
      rintro e w5 ⟨rfl, _⟩
      go_wp2_with (first | ((with_reducible apply wpl_storerow); (exact rfl); (exact rfl); infer_instance; infer_instance; (first | (with_reducible assumption) | (with_reducible exact H32.size _) | kernel_rfl); (first | (with_reducible assumption) | (with_reducible exact H32.size _) | kernel_rfl); (first | (with_reducible exact u8s_one _) | (with_reducible assumption) | kernel_rfl); intro ws _ _))
      refine ⟨⟨k + 1, by omega, by go_num, stepN, inferInstance, ?_⟩, by simp [intOf]; omega⟩
      rw [walkN_snoc]
      exact inferInstance
    · have hge := HE.out k hk hlt
      have hge' : ¬ (s : Int) + k < min t 3 := by omega
      have hkn : Hid (k = n) := Lib.hid (by omega)
      go_wp2_with (first | ((with_reducible apply wpl_loadrow); (exact rfl); infer_instance; infer_instance; (first | (with_reducible assumption) | (with_reducible exact H32.size _) | kernel_rfl)) | ((with_reducible apply wpl_storerow); (exact rfl); (exact rfl); infer_instance; infer_instance; (first | (with_reducible assumption) | (with_reducible exact H32.size _) | kernel_rfl); (first | (with_reducible assumption) | (with_reducible exact H32.size _) | kernel_rfl); (first | (with_reducible exact u8s_one _) | (with_reducible assumption) | kernel_rfl); intro ws _ _) | ((with_reducible apply wpl_min); (exact rfl); (exact rfl)))
      refine ret_row rfl rfl (n := 32) (H32.size _) rfl ⟨?_, stepN⟩
      rw [hkn.out, walkS, HS.out, HN.out]
set_option maxRecDepth 100000 in
set_option maxHeartbeats 800000 in
theorem rpublic_calls (seed : H32) (leaf : Int) (w : World) :
    Calls Tryz.prog 12 #[.agg (u8s seed.l), .int .i64 leaf] w fun e w' => e = .returned (.agg (u8s (publicS seed leaf).l)) ∧ Step nowhere w w' := by
  go_enter Tryz.func12, Tryz.ntmps12
  go_wp2_with (first | ((with_reducible apply (wpl_box_agg (dst := some 2))); (exact rfl); intro zs wzs _ _ _) | ((with_reducible apply (wpl_alloc (dst := some 4))); intro zo wzo _ _ _))
  go_loopw [5, 6] (fun v i wr => ∃ (k : Nat) (A' : Option Addr) (c' : Nat), k ≤ 36 ∧ i = .int .i64 (k : Int) ∧ v = .slice A' k c' ∧ Step nowhere w wr ∧ HB wr zs 26 (u8s seed.l) ∧ HB wr zo 26 (u8s zeroH.l) ∧ NewA w A' ∧ OffB (rowOf A') zs ∧ OffB (rowOf A') zo ∧ HO wr 26 32 A' k c' (cellsOf (mapH (fun h i => walkS i 0 3 h) (secretsS seed leaf) k))) (fun _ i _ => 36 - (intOf i).toNat)
  case atStart => exact ⟨0, none, 0, Nat.zero_le _, rfl, rfl, stepN, inferInstance, inferInstance, NewA.of_none _, inferInstance, inferInstance, ⟨Own.nil _ _ _⟩⟩
  case round =>
    obtain ⟨k, A', c', hk, rfl, rfl, _, _, _, _, _, _, _⟩ := hrel
    by_cases hlt : k < 36
    · have kb : ∀ (hh : H32) (w : World), (Instr.buildSlice 31 1 #[(0, .agg (u8s hh.l))]).run Tryz.prog w = .ok (.slice (some ⟨w.heap.size, 0, none⟩) 1 1) (w.alloc (.cells (u8s hh.l) 26)) := run_oneH
      have kb3 := kb (walkS k 0 3 (secretS seed leaf k))
      have hsn : Hid (mapH (fun h i => walkS i 0 3 h) (secretsS seed leaf) (k + 1) = mapH (fun h i => walkS i 0 3 h) (secretsS seed leaf) k ++ [walkS k 0 3 (secretS seed leaf k)]) := Lib.hid (by rw [mapH_snoc, hget_secrets seed leaf k hlt])
      go_wp2_with (first | ((with_reducible apply wpl_loadrow); (exact rfl); infer_instance; infer_instance; (first | (with_reducible assumption) | (with_reducible exact H32.size _) | kernel_rfl)))
      refine (rsecret_calls seed leaf k _).mono ?_
      rintro e w5 ⟨rfl, _⟩
      go_wp2_with fail
      refine (rwalk_calls (secretS seed leaf k) k 0 3 _).mono ?_
      rintro e w6 ⟨rfl, _⟩
      go_wp2_with (first | ((with_reducible apply wpl_bslice); (exact kb3 _); intro zb wb _ _ _) | ((with_reducible apply wpl_appendH); (exact rfl); (exact rfl); infer_instance; (first | exact inferInstance | exact ⟨Own.nil _ _ _⟩); infer_instance; (first | (with_reducible assumption) | omega); intro A' c' wa _ _ _ hcap))
      refine ⟨⟨k + 1, _, _, by omega, by go_num, rfl, stepN, inferInstance, inferInstance, inferInstance, inferInstance, inferInstance, ?_⟩, by simp [intOf]; omega⟩
      rw [hsn.out]
      exact inferInstance
    · have hk36 : Hid (k = 36) := Lib.hid (by omega)
      go_wp2_with fail
      refine (ends_calls (l := mapH (fun h i => walkS i 0 3 h) (secretsS seed leaf) k) (mapH_len _ _ _) (by omega)).mono ?_
      rintro e w7 ⟨rfl, _⟩
      go_wp2_with (first | ((with_reducible apply wpl_storerow); (exact rfl); (exact rfl); infer_instance; infer_instance; (first | (with_reducible assumption) | (with_reducible exact H32.size _) | kernel_rfl); (first | (with_reducible assumption) | (with_reducible exact H32.size _) | kernel_rfl); (first | (with_reducible exact u8s_one _) | (with_reducible assumption) | kernel_rfl); intro ws _ _))
      refine ret_row rfl rfl (n := 32) (H32.size _) rfl ⟨?_, stepN⟩
      rw [hk36.out, publicS]
set_option maxRecDepth 100000 in
set_option maxHeartbeats 800000 in
theorem rsign_calls {A : Option Addr} {n c : Nat} {m : List UInt8} (seed : H32) (leaf : Int) {w : World} [HR w A (bs m)] (hl : m.length = n) (hn : n ≤ 100000) :
    Calls Tryz.prog 40 #[.agg (u8s seed.l), .int .i64 leaf, .slice A n c] w fun e w' => ∃ A' c', e = .returned (.slice A' 36 c') ∧ Step nowhere w w' ∧ NewA w A' ∧ HO w' 26 32 A' 36 c' (cellsOf (signS seed leaf m)) := by
  have hd := digitsS_len m
  have hsz : (i64s (digitsS m)).size = 36 := by rw [i64s_size, hd]
  have h1 := i64s_one (digitsS m)
  go_enter Tryz.func40, Tryz.ntmps40
  go_wp2_with (first | ((with_reducible apply (wpl_box_agg (dst := some 3))); (exact rfl); intro zs wzs _ _ _))
  refine (rdigits_calls (xs := m) hl hn).mono ?_
  rintro e w4 ⟨rfl, _⟩
  go_wp2_with (first | ((with_reducible apply (wpl_alloc (dst := some 7))); intro zd wzd _ _ _) | ((with_reducible apply wpl_storerow); (exact rfl); (exact rfl); infer_instance; infer_instance; (first | (with_reducible assumption) | (with_reducible exact H32.size _) | kernel_rfl); (first | (with_reducible assumption) | (with_reducible exact H32.size _) | kernel_rfl); (first | (with_reducible exact u8s_one _) | (with_reducible assumption) | kernel_rfl); intro ws _ _))
  go_loopw [8, 9] (fun v i wr => ∃ (k : Nat) (A' : Option Addr) (c' : Nat), k ≤ 36 ∧ i = .int .i64 (k : Int) ∧ v = .slice A' k c' ∧ Step nowhere w wr ∧ HB wr zs 26 (u8s seed.l) ∧ HB wr zd 123 (i64s (digitsS m)) ∧ NewA w A' ∧ OffB (rowOf A') zs ∧ OffB (rowOf A') zd ∧ HO wr 26 32 A' k c' (cellsOf (mapH (fun h i => walkS i 0 (iget (digitsS m) i) h) (secretsS seed leaf) k))) (fun _ i _ => 36 - (intOf i).toNat)
  case atStart => exact ⟨0, none, 0, Nat.zero_le _, rfl, rfl, stepN, inferInstance, inferInstance, NewA.of_none _, inferInstance, inferInstance, ⟨Own.nil _ _ _⟩⟩
  case round =>
    obtain ⟨k, A', c', hk, rfl, rfl, _, _, _, _, _, _, _⟩ := hrel
    by_cases hlt : k < 36
    · have kb3 := run_oneH (walkS k 0 (iget (digitsS m) k) (secretS seed leaf k))
      have hkI : (k : Int) < 36 := by omega
      have hkd : k < (digitsS m).length := by omega
      have hsn : Hid (mapH (fun h i => walkS i 0 (iget (digitsS m) i) h) (secretsS seed leaf) (k + 1) = mapH (fun h i => walkS i 0 (iget (digitsS m) i) h) (secretsS seed leaf) k ++ [walkS k 0 (iget (digitsS m) k) (secretS seed leaf k)]) := Lib.hid (by rw [mapH_snoc, hget_secrets seed leaf k hlt])
      go_wp2_with fail
      refine wp_region_N ((rowOf A')) (by kernel_rfl) (fun wd _ _ => ?_)
      refine' takeH (i := 0) (v := _) rfl (by kernel_rfl) (by kernel_rfl) (by kernel_rfl) (fun _ _ _ h => h) (yields_of (by rfl) (fun w' _ => ?_)) inferInstance ?_
      rotate_left
      · (go_simp; try with_reducible rfl)
      try simp only [Act.put, sA]; try simp only [sB, sC]
      refine' takeH (i := 1) (v := _) rfl (by kernel_rfl) (by kernel_rfl) (by kernel_rfl) (fun _ _ _ h => h) (yields_of (by rfl) (fun w' _ => ?_)) inferInstance ?_
      rotate_left
      · ((with_reducible apply ev_loadrow); (exact rfl); infer_instance; infer_instance; (first | (with_reducible assumption) | (with_reducible exact H32.size _) | kernel_rfl))
      try simp only [Act.put, sA]; try simp only [sB, sC]
      refine' takeH (i := 2) (v := _) rfl (by kernel_rfl) (by kernel_rfl) (by kernel_rfl) (fun _ _ _ h => h) (yields_of (by rfl) (fun w' _ => ?_)) inferInstance ?_
      rotate_left
      · (go_simp; try with_reducible rfl)
      try simp only [Act.put, sA]; try simp only [sB, sC]
      refine' takeH (i := 3) (v := _) rfl (by kernel_rfl) (by kernel_rfl) (by kernel_rfl) (fun _ _ _ h => h) (yields_of (by rfl) (fun w' _ => ?_)) inferInstance ?_
      rotate_left
      · (go_simp; try with_reducible rfl)
      try simp only [Act.put, sA]; try simp only [sB, sC]
      refine' takeH (i := 5) (v := _) rfl (by kernel_rfl) (by kernel_rfl) (by kernel_rfl) (fun _ _ _ h => h) (yields_of (by rfl) (fun w' _ => ?_)) inferInstance ?_
      rotate_left
      · (go_simp; try with_reducible rfl)
      try simp only [Act.put, sA]; try simp only [sB, sC]
      refine' takeH (i := 6) (v := _) rfl (by kernel_rfl) (by kernel_rfl) (by kernel_rfl) (fun _ _ _ h => h) (yields_of (by rfl) (fun w' _ => ?_)) inferInstance ?_
      rotate_left
      · (go_simp; try with_reducible rfl)
      try simp only [Act.put, sA]; try simp only [sB, sC]
      refine' takeH (i := 7) (v := _) rfl (by kernel_rfl) (by kernel_rfl) (by kernel_rfl) (fun _ _ _ h => h) (yields_of (by rfl) (fun w' _ => ?_)) inferInstance ?_
      rotate_left
      · (go_simp; try with_reducible rfl)
      try simp only [Act.put, sA]; try simp only [sB, sC]
      refine' takeH (i := 8) (v := _) rfl (by kernel_rfl) (by kernel_rfl) (by kernel_rfl) (fun _ _ _ h => h) (yields_of (by rfl) (fun w' _ => ?_)) inferInstance ?_
      rotate_left
      · ((with_reducible apply (ev_loadint (t := 3))); (exact rfl); infer_instance; infer_instance; (first | (with_reducible assumption) | omega))
      try simp only [Act.put, sA]; try simp only [sB, sC]
      refine goH (i := 4) (by kernel_rfl) rfl (fun K_ hK_ => ?_)
      go_simp
      refine (rsecret_calls seed leaf k _).mono ?_
      rintro e w5 ⟨rfl, _⟩
      refine hK_.out _ _ inferInstance (fun _ => ?_)
      clear hK_ K_
      try simp only [Act.put, sA]; try simp only [sB, sC]
      refine goH (i := 9) (by kernel_rfl) rfl (fun K_ hK_ => ?_)
      go_simp
      refine (rwalk_calls (secretS seed leaf k) k 0 (iget (digitsS m) k) _).mono ?_
      rintro e w6 ⟨rfl, _⟩
      refine hK_.out _ _ inferInstance (fun _ => ?_)
      clear hK_ K_
      try simp only [Act.put, sA]; try simp only [sB, sC]
      refine goH (i := 10) (by kernel_rfl) rfl (fun K_ hK_ => ?_)
      rw [if_pos (by kernel_rfl)]
      refine wpr_of_list ?_
      (first | ((with_reducible apply wpl_bslice); (exact kb3 _); intro zb wb _ _ _))
      refine wpList_nil ?_
      unfold onlyN
      refine hK_.out _ _ inferInstance (fun _ => ?_)
      clear hK_ K_
      try simp only [Act.put, sA]; try simp only [sB, sC]
      refine goH (i := 11) (by kernel_rfl) rfl (fun K_ hK_ => ?_)
      rw [if_pos (by kernel_rfl)]
      refine wpr_of_list ?_
      (first | ((with_reducible apply wpl_bslice); (exact kb3 _); intro zb wb _ _ _) | ((with_reducible apply wpl_appendB); (exact rfl); (exact rfl); infer_instance; (first | exact inferInstance | exact ⟨Own.nil _ _ _⟩); infer_instance; (first | (with_reducible assumption) | (with_reducible exact H32.len _) | (focus (simp; done)) | omega); (first | (with_reducible assumption) | omega); intro A' c' wa _ _ _ hcap) | ((with_reducible apply wpl_appendH); (exact rfl); (exact rfl); infer_instance; (first | exact inferInstance | exact ⟨Own.nil _ _ _⟩); infer_instance; (first | (with_reducible assumption) | omega); intro A' c' wa _ _ _ hcap))
      refine wpList_nil ?_
      unfold onlyN
      refine hK_.out _ _ inferInstance (fun _ => ?_)
      clear hK_ K_
      try simp only [Act.put, sA]; try simp only [sB, sC]
      refine' takeH (i := 12) (v := _) rfl (by kernel_rfl) (by kernel_rfl) (by kernel_rfl) (fun _ _ _ h => h) (yields_of (by rfl) (fun w' _ => ?_)) inferInstance ?_
      rotate_left
      · (go_simp; try with_reducible rfl)
      try simp only [Act.put, sA]; try simp only [sB, sC]
      refine wpAnyH_done (by kernel_rfl) ?_ _
      go_wp2_with fail
      refine ⟨⟨k + 1, _, _, by omega, by go_num, rfl, stepN, inferInstance, inferInstance, inferInstance, inferInstance, inferInstance, ?_⟩, by simp [intOf]; omega⟩
      rw [hsn.out]
      exact inferInstance
    · have hk36 : k = 36 := by omega
      obtain rfl := hk36
      go_wp2_with fail
      go_ret
      exact ⟨A', c', rfl, stepN, inferInstance, by rw [signS]; exact inferInstance⟩
end Go.Proofs.YtmnapacibpnodaaGreat
end
section
open Go Go.RowKit
namespace Go.Proofs.YtmnapacibpnodaaGreat
def verifyS (pub : H32) (m : List UInt8) (leaf : Int) (l p : List H32) : Bool := isS leaf l.length p.length && decide (nameS (upL (recoverS m l) leaf.toNat p) = pub)
set_option maxRecDepth 100000 in
set_option maxHeartbeats 1600000 in
theorem verifyW_calls {A B C : Option Addr} {n c nl cl np cp : Nat} {m : List UInt8} {l p : List H32} (pub : H32) (leaf : Int) {w : World} [HR w A (bs m)] [HR w B (cellsOf l)] [HR w C (cellsOf p)] (hm : m.length = n) (hc : n ≤ c) (hn : n ≤ 140737488351232) (hl : l.length = nl) (hp : p.length = np) :
    Calls Tryz.prog 96 #[.agg (u8s pub.l), .slice A n c, .agg #[.int .i64 leaf, .slice B nl cl, .slice C np cp]] w fun e w' => e = .returned (.bool (verifyS pub m leaf l p)) ∧ Step nowhere w w' := by
  cases hi : isS leaf nl np with
  | false =>
    have hs : verifyS pub m leaf l p = false := by rw [verifyS, hl, hp, hi]; rfl
    rw [hs]
    have HI := Lib.hid hi
    clear hs hi
    go_enter Tryz.func96, Tryz.ntmps96
    go_wp2_with (first | ((with_reducible apply (wpl_box_agg (dst := some 3))); (exact rfl); intro zp wzp _ _ _) | ((with_reducible apply (wpl_box_agg (dst := some 5))); (exact rfl); intro zs wzs _ _ _) | ((with_reducible apply wpl_loadrow); (exact rfl); infer_instance; infer_instance; (first | (with_reducible assumption) | (with_reducible exact H32.size _) | kernel_rfl)))
    refine (is_calls _).mono ?_
    rw [HI.out]
    rintro e w1 ⟨rfl, _⟩
    go_wp2_with fail
    go_ret
    exact ⟨rfl, stepN⟩
  | true =>
    have hi' := hi
    simp only [isS, Bool.and_eq_true, decide_eq_true_eq] at hi'
    obtain ⟨⟨⟨h0, h1⟩, rfl⟩, rfl⟩ := hi'
    obtain ⟨i, rfl⟩ : ∃ i : Nat, leaf = (i : Int) := ⟨leaf.toNat, by omega⟩
    obtain ⟨H, hH⟩ : ∃ H, H = recoverS m l := ⟨_, rfl⟩
    obtain ⟨U, hU⟩ : ∃ U, U = upL H i p := ⟨_, rfl⟩
    obtain ⟨N, hN⟩ : ∃ N, N = nameS U := ⟨_, rfl⟩
    have hs : verifyS pub m (i : Int) l p = decide (N = pub) := by rw [verifyS, hl, hp, hi, hN, hU, hH]; rfl
    rw [hs]
    have HI := Lib.hid hi
    have HH := Lib.hid hH
    have HU := Lib.hid hU
    have HN := Lib.hid hN
    have heq := eqlH
    clear hs hi hH hU hN
    go_enter Tryz.func96, Tryz.ntmps96
    go_wp2_with (first | ((with_reducible apply (wpl_box_agg (dst := some 3))); (exact rfl); intro zp wzp _ _ _) | ((with_reducible apply (wpl_box_agg (dst := some 5))); (exact rfl); intro zs wzs _ _ _) | ((with_reducible apply wpl_loadrow); (exact rfl); infer_instance; infer_instance; (first | (with_reducible assumption) | (with_reducible exact H32.size _) | kernel_rfl)))
    refine (is_calls _).mono ?_
    rw [HI.out]
    rintro e w1 ⟨rfl, _⟩
    go_wp2_with (first | ((with_reducible apply wpl_loadcellN); (exact rfl); infer_instance; (exact rfl)))
    refine (recoverW_calls hm hc hn hl).mono ?_
    rw [if_pos rfl, decide_eq_true rfl, ← HH.out]
    rintro e w2 ⟨rfl, _⟩
    go_wp2_with (first | ((with_reducible apply (wpl_alloc (dst := some 7))); intro z7 wz7 _ _ _) | ((with_reducible apply wpl_storerow); (exact rfl); (exact rfl); infer_instance; infer_instance; (first | (with_reducible assumption) | (with_reducible exact H32.size _) | kernel_rfl); (first | (with_reducible assumption) | (with_reducible exact H32.size _) | kernel_rfl); (first | (with_reducible exact u8s_one _) | (with_reducible assumption) | kernel_rfl); intro ws _ _))
    refine wp_region_N (nowhere) (by kernel_rfl) (fun wd _ _ => ?_)
    refine' takeH (i := 0) (v := _) rfl (by kernel_rfl) (by kernel_rfl) (by kernel_rfl) (fun _ _ _ h => h) (yields_of (by rfl) (fun w' _ => ?_)) inferInstance ?_
    rotate_left
    · (go_simp; try with_reducible rfl)
    try simp only [Act.put, sA]; try simp only [sB, sC]
    refine' takeH (i := 1) (v := _) rfl (by kernel_rfl) (by kernel_rfl) (by kernel_rfl) (fun _ _ _ h => h) (yields_of (by rfl) (fun w' _ => ?_)) inferInstance ?_
    rotate_left
    · (go_simp; try with_reducible rfl)
    try simp only [Act.put, sA]; try simp only [sB, sC]
    refine' takeH (i := 2) (v := _) rfl (by kernel_rfl) (by kernel_rfl) (by kernel_rfl) (fun _ _ _ h => h) (yields_of (by rfl) (fun w' _ => ?_)) inferInstance ?_
    rotate_left
    · ((with_reducible apply ev_loadrow); (exact rfl); infer_instance; infer_instance; (first | (with_reducible assumption) | (with_reducible exact H32.size _) | kernel_rfl))
    try simp only [Act.put, sA]; try simp only [sB, sC]
    refine' takeH (i := 3) (v := _) rfl (by kernel_rfl) (by kernel_rfl) (by kernel_rfl) (fun _ _ _ h => h) (yields_of (by rfl) (fun w' _ => ?_)) inferInstance ?_
    rotate_left
    · (go_simp; try with_reducible rfl)
    try simp only [Act.put, sA]; try simp only [sB, sC]
    refine' takeH (i := 4) (v := _) rfl (by kernel_rfl) (by kernel_rfl) (by kernel_rfl) (fun _ _ _ h => h) (yields_of (by rfl) (fun w' _ => ?_)) inferInstance ?_
    rotate_left
    · ((with_reducible apply ev_loadcellN); (exact rfl); infer_instance; infer_instance; (exact rfl))
    try simp only [Act.put, sA]; try simp only [sB, sC]
    refine' takeH (i := 5) (v := _) rfl (by kernel_rfl) (by kernel_rfl) (by kernel_rfl) (fun _ _ _ h => h) (yields_of (by rfl) (fun w' _ => ?_)) inferInstance ?_
    rotate_left
    · (go_simp; try with_reducible rfl)
    try simp only [Act.put, sA]; try simp only [sB, sC]
    refine' takeH (i := 6) (v := _) rfl (by kernel_rfl) (by kernel_rfl) (by kernel_rfl) (fun _ _ _ h => h) (yields_of (by rfl) (fun w' _ => ?_)) inferInstance ?_
    rotate_left
    · ((with_reducible apply ev_loadcellN); (exact rfl); infer_instance; infer_instance; (exact rfl))
    try simp only [Act.put, sA]; try simp only [sB, sC]
    refine' takeH (i := 9) (v := _) rfl (by kernel_rfl) (by kernel_rfl) (by kernel_rfl) (fun _ _ _ h => h) (yields_of (by rfl) (fun w' _ => ?_)) inferInstance ?_
    rotate_left
    · ((with_reducible apply ev_loadrow); (exact rfl); infer_instance; infer_instance; (first | (with_reducible assumption) | (with_reducible exact H32.size _) | kernel_rfl))
    try simp only [Act.put, sA]; try simp only [sB, sC]
    refine goH (i := 7) (by kernel_rfl) rfl (fun K_ hK_ => ?_)
    go_simp
    refine (upC H i hp (by decide) (by omega)).mono ?_
    rw [← HU.out]
    rintro e w5 ⟨rfl, _⟩
    refine hK_.out _ _ inferInstance (fun _ => ?_)
    clear hK_ K_
    try simp only [Act.put, sA]; try simp only [sB, sC]
    refine goH (i := 8) (by kernel_rfl) rfl (fun K_ hK_ => ?_)
    go_simp
    refine (name_calls U _).mono ?_
    rw [← HN.out]
    rintro e w6 ⟨rfl, _⟩
    refine hK_.out _ _ inferInstance (fun _ => ?_)
    clear hK_ K_
    try simp only [Act.put, sA]; try simp only [sB, sC]
    refine' takeH (i := 10) (v := _) rfl (by kernel_rfl) (by kernel_rfl) (by kernel_rfl) (fun _ _ _ h => h) (yields_of (by rfl) (fun w' _ => ?_)) inferInstance ?_
    rotate_left
    · (go_simp; try with_reducible rfl)
    try simp only [Act.put, sA]; try simp only [sB, sC]
    refine' takeH (i := 11) (v := _) rfl (by kernel_rfl) (by kernel_rfl) (by kernel_rfl) (fun _ _ _ h => h) (yields_of (by rfl) (fun w' _ => ?_)) inferInstance ?_
    rotate_left
    · (go_simp; try with_reducible rfl)
    try simp only [Act.put, sA]; try simp only [sB, sC]
    refine' takeH (i := 12) (v := _) rfl (by kernel_rfl) (by kernel_rfl) (by kernel_rfl) (fun _ _ _ h => h) (yields_of (by rfl) (fun w' _ => ?_)) inferInstance ?_
    rotate_left
    · (go_simp; try with_reducible rfl)
    try simp only [Act.put, sA]; try simp only [sB, sC]
    refine wpAnyH_done (by kernel_rfl) ?_ _
    go_wp2_with fail
    go_ret
    exact ⟨rfl, stepN⟩
end Go.Proofs.YtmnapacibpnodaaGreat
end
section
open Go Go.RowKit
namespace Go.Proofs.YtmnapacibpnodaaGreat
/-- a mark, and what its two rows hold -/
structure MarkR where
  key : H32
  leaf : Int
  A : Option Addr
  c : Nat
  l : List H32
  B : Option Addr
  k : Nat
  p : List H32
def MarkR.sig (r : MarkR) : List Value := [.int .i64 r.leaf, .slice r.A r.l.length r.c, .slice r.B r.p.length r.k]
instance iQmA_1 : RowC MarkR := ⟨35, fun r => bs r.key.l ++ r.sig, fun r => by simp [MarkR.sig, bs_length], fun r u hu => by
  rcases List.mem_append.1 hu with h | h
  · exact bs_one r.key.l u h
  · simp only [MarkR.sig, List.mem_cons, List.not_mem_nil, or_false] at h
    rcases h with rfl | rfl | rfl <;> rfl, ⟨zeroH, 0, none, 0, [], none, 0, []⟩⟩
theorem mark_key (r : MarkR) : ((RowC.enc r).drop 0).take 32 = bs r.key.l := by
  show (bs r.key.l ++ r.sig).take 32 = _
  rw [List.take_left' (by rw [bs_length, r.key.len])]
theorem mark_sig (r : MarkR) : ((RowC.enc r).drop 32).take 3 = [.int .i64 r.leaf, .slice r.A r.l.length r.c, .slice r.B r.p.length r.k] := by
  show ((bs r.key.l ++ r.sig).drop 32).take 3 = _
  rw [List.drop_left' (by rw [bs_length, r.key.len])]
  rfl
/-- the rows of a mark, as they stand in this world -/
def MarkIn (w : World) (r : MarkR) : Prop := Rd w r.A (cellsOf r.l) ∧ Rd w r.B (cellsOf r.p)
theorem MarkIn.nw {w0 w : World} [n : Nw w0 w] {r : MarkR} (h : MarkIn w0 r) : MarkIn w r := ⟨h.1.chg n.out (fun _ _ _ h => h), h.2.chg n.out (fun _ _ _ h => h)⟩
instance iQmA_2 : ElemT Tryz.prog 35 67 35 88 (.agg (u8s zeroH.l ++ #[.int .i64 0, .slice none 0 0, .slice none 0 0])) := ⟨⟨Tryz.underlying35, by kernel_rfl, rfl, by decide⟩⟩
instance iQmA_3 : RowT Tryz.prog 67 35 := ⟨by kernel_rfl, _, Tryz.underlying67, rfl⟩
instance iQmA_4 : RowT Tryz.prog 37 2 := ⟨by kernel_rfl, _, Tryz.underlying37, rfl⟩
instance iQmA_5 : RowT Tryz.prog 73 2 := ⟨by kernel_rfl, _, Tryz.underlying73, rfl⟩
instance iQmA_6 : CellT Tryz.prog 34 := ⟨fun _ => by kernel_rfl, fun _ => by kernel_rfl⟩
instance iQmA_7 : CellT Tryz.prog 35 := ⟨fun _ => by kernel_rfl, fun _ => by kernel_rfl⟩
/-- a mark tells that a key has signed bytes -/
def signsB (m : List UInt8) (h : H32) (r : MarkR) : Bool := decide (r.key = h) && verifyS h m r.leaf r.l r.p
/-- those that signed, of the first keys -/
def whoN (m : List UInt8) (l : List MarkR) (ks : List H32) : Nat → List H32
  | 0 => []
  | k + 1 => whoN m l ks k ++ (if hget ks k ∈ ks.take k then [] else if (l.take 4).any (signsB m (hget ks k)) then [hget ks k] else [])
section
variable {P : Program} {ops : Array Oper} {rest : List Oper} {a : Act} {w : World} {Q : Exit → Act → World → Prop} {dst : Option Tmp} {ty : TypeId} {pos : String} {after : Array Edge} {gd : Option (Nat × Bool)}
/-- a part of an element, whole -/
theorem ev_loadEP {α : Type} [RowC α] {t : TypeId} {x : Operand} {A : Option Addr} {k j s n : Nat} (ht : RowT P t n) (hx : a.eval x = ptrOf A (k * s + j)) {l : List α} (hr : HR w A (cellsOf l)) (hs : RowC.size α = s) (hn : 0 < n) (hk : k < l.length) {vs : List Value} (hv : ((RowC.enc (gt l k)).drop j).take n = vs) (hl : vs.length = n) :
    (execOp a.eval ⟨dst, .load t x, ty, pos, after, gd⟩).run P w = .ok (.value (.agg vs.toArray)) w := by
  show ((Instr.loadAt t (a.eval x)) >>= fun v => pure (Next.value v)).run P w = _
  subst hs
  have hlen : j + n ≤ RowC.size α := by
    have h1 := congrArg List.length hv
    rw [List.length_take, List.length_drop, RowC.len, hl] at h1
    omega
  have hc : ((cellsOf l).drop (k * RowC.size α + j)).take n = vs := by
    have h2 := cellsOf_at l k hk
    have h3 : (((cellsOf l).drop (k * RowC.size α)).drop j).take n = (((((cellsOf l).drop (k * RowC.size α)).take (RowC.size α))).drop j).take n := by
      rw [List.drop_take, List.take_take, Nat.min_eq_left (by omega)]
    rw [← List.drop_drop, h3, h2]
    exact hv
  rw [hx, Sem.run_bind, run_loadshift (k := k * RowC.size α + j) (cs := vs) hr.out ht hl hc hn]
  rfl
/-- a part of a block, whole -/
theorem ev_loadpart {t : TypeId} {x : Operand} {g k n : Nat} (hx : a.eval x = .pointer (some ⟨g, k, none⟩)) {tb : TypeId} {cs : Array Value} (hb : HB w g tb cs) (ht : RowT P t n) (hn : 0 < n) {vs : List Value} (hv : (cs.toList.drop k).take n = vs) (hl : vs.length = n) :
    (execOp a.eval ⟨dst, .load t x, ty, pos, after, gd⟩).run P w = .ok (.value (.agg vs.toArray)) w := by
  show ((Instr.loadAt t (a.eval x)) >>= fun v => pure (Next.value v)).run P w = _
  have e : a.eval x = ptrOf (some ⟨g, 0, none⟩) k := by
    rw [hx]
    simp [ptrOf, shift, add_row]
  rw [e, Sem.run_bind, run_loadshift (k := k) (cs := vs) (HR.ofBlkL hb).out ht hl hv hn]
  rfl
theorem wpl_loadpart {t : TypeId} {x : Operand} {g k n : Nat} (hx : a.eval x = .pointer (some ⟨g, k, none⟩)) {tb : TypeId} {cs : Array Value} (hb : HB w g tb cs) (ht : RowT P t n) (hn : 0 < n) {vs : List Value} (hv : (cs.toList.drop k).take n = vs) (hl : vs.length = n)
    (h : wpList P ops Q rest (a.put dst (.agg vs.toArray)) w) : wpList P ops Q (⟨dst, .load t x, ty, pos, after, none⟩ :: rest) a w := wpl_of_run rfl (ev_loadpart hx hb ht hn hv hl) h
theorem ev_loadEPH {α : Type} [RowC α] {t : TypeId} {x : Operand} {A : Option Addr} {k j s : Nat} (ht : RowT P t 32) (hx : a.eval x = ptrOf A (k * s + j)) {l : List α} (hr : HR w A (cellsOf l)) (hs : RowC.size α = s) (hk : k < l.length) {hh : H32} (hv : ((RowC.enc (gt l k)).drop j).take 32 = bs hh.l) :
    (execOp a.eval ⟨dst, .load t x, ty, pos, after, gd⟩).run P w = .ok (.value (.agg (u8s hh.l))) w := ev_loadEP ht hx hr hs (by decide) hk hv (by rw [bs_length, hh.len])
theorem wpl_loadpartH {t : TypeId} {x : Operand} {g k : Nat} (hx : a.eval x = .pointer (some ⟨g, k, none⟩)) {tb : TypeId} {cs : Array Value} (hb : HB w g tb cs) (ht : RowT P t 32) {hh : H32} (hv : (cs.toList.drop k).take 32 = bs hh.l)
    (h : wpList P ops Q rest (a.put dst (.agg (u8s hh.l))) w) : wpList P ops Q (⟨dst, .load t x, ty, pos, after, none⟩ :: rest) a w := wpl_loadpart hx hb ht (by decide) hv (by rw [bs_length, hh.len]) h
end
theorem verifyM_calls {M : Option Addr} {nb cb : Nat} {m : List UInt8} (pub : H32) (r : MarkR) (w0 : World) {w : World} [n : Nw w0 w] [hM : HR w M (bs m)] (hr : MarkIn w0 r) (hm : m.length = nb) (hc : nb ≤ cb) (hn : nb ≤ 140737488351232) :
    Calls Tryz.prog 96 #[.agg (u8s pub.l), .slice M nb cb, .agg #[.int .i64 r.leaf, .slice r.A r.l.length r.c, .slice r.B r.p.length r.k]] w fun e w' => e = .returned (.bool (verifyS pub m r.leaf r.l r.p)) ∧ Step nowhere w w' := by
  have h1 : HR w r.A (cellsOf r.l) := ⟨(MarkIn.nw (w := w) hr).1⟩
  have h2 : HR w r.B (cellsOf r.p) := ⟨(MarkIn.nw (w := w) hr).2⟩
  exact verifyW_calls pub r.leaf hm hc hn rfl rfl
end Go.Proofs.YtmnapacibpnodaaGreat
end
section
open Go Go.RowKit
namespace Go.Proofs.YtmnapacibpnodaaGreat
theorem walkN_add (chain : Int) : ∀ (i a b : Nat) (h : H32), walkN chain (i + a) b (walkN chain i a h) = walkN chain i (a + b) h
  | i, 0, b, h => by rw [Nat.zero_add]; rfl
  | i, a + 1, b, h => by
    have e := walkN_add chain (i + 1) a b (stepH chain i h)
    have e1 : i + 1 + a = i + (a + 1) := by omega
    have e2 : a + 1 + b = (a + b) + 1 := by omega
    rw [e1] at e
    rw [e2]
    exact e
theorem walkS_two (chain a b c : Int) (h : H32) (h0 : 0 ≤ a) (h1 : a ≤ b) (h2 : b ≤ c) (h3 : c ≤ 3) : walkS chain b c (walkS chain a b h) = walkS chain a c h := by
  unfold walkS
  have e1 : (max b 0).toNat = (max a 0).toNat + (min b 3 - max a 0).toNat := by omega
  have e2 : (min c 3 - max a 0).toNat = (min b 3 - max a 0).toNat + (min c 3 - max b 0).toNat := by omega
  rw [e1, e2]
  exact walkN_add _ _ _ _ _
theorem digs_mem (h : H32) (k : Nat) : ∀ d ∈ digs h k, 0 ≤ d ∧ d ≤ 3 := by
  intro d hd
  obtain ⟨i, _, rfl⟩ := List.mem_map.1 hd
  exact digI_in _ _
theorem lastD_mem (q : Int) : ∀ n, ∀ d ∈ lastD n q, 0 ≤ d ∧ d ≤ 3
  | 0, d, hd => by cases hd
  | n + 1, d, hd => by
    rcases List.mem_append.1 hd with hd | hd
    · exact lastD_mem q n d hd
    · rw [List.mem_singleton.1 hd]; omega
theorem digits_in (m : List UInt8) (i : Nat) (h : i < 36) : 0 ≤ iget (digitsS m) i ∧ iget (digitsS m) i ≤ 3 := by
  have hm := iget_mem (digitsS m) i (by rw [digitsS_len]; exact h)
  rcases List.mem_append.1 hm with hm | hm
  · exact digs_mem _ _ _ hm
  · exact lastD_mem _ _ _ hm
theorem hget_mapH (g : H32 → Nat → H32) (l : List H32) (n k : Nat) (h : k < n) : hget (mapH g l n) k = g (hget l k) k := by
  simp [mapH, hget, List.getD_eq_getElem?_getD, h]
theorem recover_sign (seed : H32) (leaf : Int) (m : List UInt8) : recoverS m (signS seed leaf m) = publicS seed leaf := by
  unfold recoverS publicS
  congr 1
  refine List.map_congr_left fun i hi => ?_
  have hi' : i < 36 := List.mem_range.1 hi
  have hd := digits_in m i hi'
  show walkS i (iget (digitsS m) i) 3 (hget (mapH _ _ 36) i) = _
  rw [hget_mapH _ _ _ _ hi']
  exact walkS_two i 0 (iget (digitsS m) i) 3 _ (by decide) hd.1 hd.2 (by decide)
theorem signS_len (seed : H32) (leaf : Int) (m : List UInt8) : (signS seed leaf m).length = 36 := mapH_len _ _ _
end Go.Proofs.YtmnapacibpnodaaGreat
end
section
open Go Go.RowKit
namespace Go.Proofs.YtmnapacibpnodaaGreat
def zeroM (h : H32) : MarkR := ⟨h, 0, none, 0, [], none, 0, []⟩
theorem enc_mark (r : MarkR) : RowC.enc r = bs r.key.l ++ [.int .i64 r.leaf, .slice r.A r.l.length r.c, .slice r.B r.p.length r.k] := rfl
theorem lay_mark0 (h : H32) : lay 0 (u8s h.l) (RowC.enc (zeroM zeroH)).toArray = (RowC.enc (zeroM h)).toArray := by
  apply Array.ext'
  have e : (RowC.enc (zeroM zeroH)).drop 32 = [.int .i64 0, .slice none 0 0, .slice none 0 0] := by
    rw [enc_mark, List.drop_left' (by rw [bs_length]; exact zeroH.len)]
    rfl
  rw [lay]
  simp [u8s_size, e]
  rfl
theorem lay_mark1 (r : MarkR) : lay 32 #[.int .i64 r.leaf, .slice r.A r.l.length r.c, .slice r.B r.p.length r.k] (RowC.enc (zeroM r.key)).toArray = (RowC.enc r).toArray := by
  apply Array.ext'
  have e : (RowC.enc (zeroM r.key)).take 32 = bs r.key.l := by
    rw [enc_mark, List.take_left' (by rw [bs_length]; exact r.key.len)]
    rfl
  have e2 : (RowC.enc (zeroM r.key)).length = 35 := RowC.len _
  show (RowC.enc (zeroM r.key)).take 32 ++ [.int .i64 r.leaf, .slice r.A r.l.length r.c, .slice r.B r.p.length r.k] ++ (RowC.enc (zeroM r.key)).drop (32 + 3) = RowC.enc r
  rw [e, List.drop_of_length_le (by rw [e2]; decide), enc_mark, List.append_nil]
set_option maxRecDepth 100000 in
theorem run_mark (r : MarkR) (w : World) : (Instr.build 67 #[(0, .agg (u8s r.key.l)), (1, .agg #[.int .i64 r.leaf, .slice r.A r.l.length r.c, .slice r.B r.p.length r.k])]).run Tryz.prog w = .ok (.agg (RowC.enc r).toArray) w := by
  refine run_build_struct Tryz.underlying67 (zv := .agg (RowC.enc (zeroM zeroH)).toArray) (fun _ => by kernel_rfl) (places := #[(0, 32), (32, 3)]) (fun _ => by kernel_rfl) ?_ w
  have h1 : ∀ q : MarkR, (RowC.enc q).toArray.size = 35 := fun q => RowC.len q
  show Instr.fill _ (RowC.enc (zeroM zeroH)).toArray [(0, .agg (u8s r.key.l)), (1, .agg #[.int .i64 r.leaf, .slice r.A r.l.length r.c, .slice r.B r.p.length r.k])] = _
  rw [fill_step _ _ 0 _ _ (off := 0) (size := 32) rfl (by show (u8s r.key.l).size = 32; exact r.key.size) (by rw [h1]; decide)]
  rw [show lay 0 (Value.agg (u8s r.key.l)).cells (RowC.enc (zeroM zeroH)).toArray = (RowC.enc (zeroM r.key)).toArray from lay_mark0 r.key]
  rw [fill_step _ _ 1 _ _ (off := 32) (size := 3) rfl rfl (by rw [h1]; decide)]
  rw [show lay 32 (Value.agg #[Value.int .i64 r.leaf, .slice r.A r.l.length r.c, .slice r.B r.p.length r.k]).cells (RowC.enc (zeroM r.key)).toArray = (RowC.enc r).toArray from lay_mark1 r]
  rfl
/-- one mark as a slice of its own -/
theorem run_oneM (r : MarkR) (w : World) : (Instr.buildSlice 35 1 #[(0, .agg (RowC.enc r).toArray)]).run Tryz.prog w = .ok (.slice (some ⟨w.heap.size, 0, none⟩) 1 1) (w.alloc (.cells (RowC.enc r).toArray 67)) := by
  have hs : (RowC.enc r).toArray.size = 35 := RowC.len r
  have hz : ∀ w, (zeroValue 67).run Tryz.prog w = .ok (.agg (RowC.enc (zeroM zeroH)).toArray) w := fun _ => by kernel_rfl
  have hi : ∀ w, (sizeOf 67).run Tryz.prog w = .ok 35 w := fun _ => by kernel_rfl
  have hz1 : (RowC.enc (zeroM zeroH)).toArray.size = 35 := RowC.len (zeroM zeroH)
  obtain ⟨Z, hZ⟩ : ∃ Z : Array Value, Z = (RowC.enc (zeroM zeroH)).toArray := ⟨_, rfl⟩
  obtain ⟨R, hR⟩ : ∃ R : Array Value, R = (RowC.enc r).toArray := ⟨_, rfl⟩
  rw [← hZ] at hz hz1
  rw [← hR] at hs ⊢
  clear hZ hR
  unfold Instr.buildSlice
  simp only [Sem.run_bind, run_underlying Tryz.underlying35, Result.andThen_ok, hi]
  have hf : Instr.fill (fun i => some (i * 35, 35)) ((Array.range (1 * 35)).map (Z[· % Z.size]!)) [(0, Value.agg R)] = some R := by
    rw [fill_step _ _ 0 (.agg R) [] (off := 0) (size := 35) rfl hs (by simp), lay_whole _ _ (by show R.size = _; rw [hs]; simp)]
    rfl
  simp [hz, Value.cells, hf, newRow]
end Go.Proofs.YtmnapacibpnodaaGreat
end
