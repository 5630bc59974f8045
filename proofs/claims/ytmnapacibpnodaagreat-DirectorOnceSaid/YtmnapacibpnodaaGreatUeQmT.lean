/- MkD, MkQm, KyT, QmT -/
import Derived.Test.YtmnapacibpnodaaGreatUeMkU
import Derived.Test.YtmnapacibpnodaaGreatUeKyP
import Derived.Test.YtmnapacibpnodaaGreatUeRpN
import Derived.Test.YtmnapacibpnodaaGreatUeQmR
import Derived.Test.YtmnapacibpnodaaGreatUeQmU
import Derived.Test.YtmnapacibpnodaaGreatUeQmF
section
open Go Go.RowKit
namespace Go.Proofs.YtmnapacibpnodaaGreat
set_option maxRecDepth 100000 in
set_option maxHeartbeats 1600000 in
theorem rroot_calls : ∀ (d : Nat) (A : Option Addr) (n c : Nat) (l : List H32) (w : World) (_ : HR w A (cellsOf l)), n = d → l.length = n → n ≤ c → n ≤ 1000 →
    Calls Tryz.prog 14 #[.slice A n c] w fun e w' => e = .returned (.agg (u8s (rootL l).l)) ∧ Step nowhere w w' := by
  intro d
  induction d using Nat.strongRecOn with
  | _ d ih =>
    intro A n c l w hr hd hl hnc hn
    have HIH := Lib.hid ih
    clear ih
    by_cases h0 : n = 0
    · have hz : l = [] := List.eq_nil_of_length_eq_zero (by omega)
      have hs : rootL l = zeroH := by rw [hz]; rfl
      have kb0 : ∀ w, (Instr.build 26 #[]).run Tryz.prog w = .ok (.agg (u8s zeroH.l)) w := fun _ => by kernel_rfl
      have hb : ((n : Int) == 0) = true := by simp; omega
      rw [hs]
      clear h0 hz hd
      go_enter Tryz.func14, Tryz.ntmps14
      go_wp2_with (first | ((with_reducible apply wpl_build); (exact kb0 _)) | ((with_reducible apply (wpl_alloc (dst := some 2))); intro zo wzo _ _ _) | ((with_reducible apply wpl_storerow); (exact rfl); (exact rfl); infer_instance; infer_instance; (first | (with_reducible assumption) | (with_reducible exact H32.size _) | kernel_rfl); (first | (with_reducible assumption) | (with_reducible exact H32.size _) | kernel_rfl); (first | (with_reducible exact u8s_one _) | (with_reducible assumption) | kernel_rfl); intro ws _ _))
      exact ret_row rfl rfl (n := 32) (H32.size zeroH) rfl ⟨rfl, stepN⟩
    have hb0 : ((n : Int) == 0) = false := by simp; omega
    by_cases h1 : n = 1
    · have hs : rootL l = hget l (Int.toNat 0) := by
        obtain ⟨x, hx⟩ := List.length_eq_one_iff.1 (hl.trans h1)
        rw [hx]; rfl
      have hb : ((n : Int) == 1) = true := by simp; omega
      have hn0 : (0 : Int) < n := by omega
      have hl0 : (Int.toNat 0) < l.length := by omega
      rw [hs]
      clear h0 h1 hd
      go_enter Tryz.func14, Tryz.ntmps14
      go_wp2_with (first | ((with_reducible apply (wpl_alloc (dst := some 2))); intro zo wzo _ _ _) | ((with_reducible apply wpl_storerow); (exact rfl); (exact rfl); infer_instance; infer_instance; (first | (with_reducible assumption) | (with_reducible exact H32.size _) | kernel_rfl); (first | (with_reducible assumption) | (with_reducible exact H32.size _) | kernel_rfl); (first | (with_reducible exact u8s_one _) | (with_reducible assumption) | kernel_rfl); intro ws _ _) | ((with_reducible apply wpl_indexH'); (exact rfl); (exact rfl); infer_instance; infer_instance; (first | (with_reducible assumption) | omega); (first | (with_reducible assumption) | omega); (first | (with_reducible assumption) | omega)) | ((with_reducible apply (wpl_loadhash (t := 26))); (exact rfl); infer_instance; infer_instance; (first | (with_reducible assumption) | omega)))
      exact ret_row rfl rfl (n := 32) (H32.size _) rfl ⟨rfl, stepN⟩
    · have hb1 : ((n : Int) == 1) = false := by simp; omega
      have hh := halfN_in n (by omega)
      have hs := rootL_two l (by omega)
      rw [hl] at hs
      obtain ⟨KH, hK⟩ : ∃ KH, KH = halfN n := ⟨_, rfl⟩
      rw [← hK] at hs
      have hK1 : KH < n := by omega
      have hK2 : KH < d := by omega
      have hK3 : n - KH < d := by omega
      have hKc : KH ≤ c := by omega
      have hKn : KH ≤ n := by omega
      have hn2 : 2 ≤ n := by omega
      obtain ⟨R1, hR1⟩ : ∃ x, x = rootL (l.take KH) := ⟨_, rfl⟩
      obtain ⟨R2, hR2⟩ : ∃ x, x = rootL (l.drop KH) := ⟨_, rfl⟩
      rw [← hR1, ← hR2] at hs
      have HK' := Lib.hid hK
      have HR1 := Lib.hid hR1
      have HR2 := Lib.hid hR2
      have HT : Hid ((l.take KH).length = KH) := Lib.hid (by rw [List.length_take]; omega)
      have HD : Hid ((l.drop KH).length = n - KH) := Lib.hid (by rw [List.length_drop]; omega)
      rw [hs]
      clear hs hK h0 h1 hd hh hR1 hR2
      go_enter Tryz.func14, Tryz.ntmps14
      go_wp2_with (first | ((with_reducible apply (wpl_alloc (dst := some 2))); intro zo wzo _ _ _))
      refine (half_calls n _ hn2 hn).mono ?_
      rw [← HK'.out]
      rintro e w1 ⟨rfl, _⟩
      go_wp2_with fail
      refine wp_region_N ((only zo)) (by kernel_rfl) (fun wd _ _ => ?_)
      refine' takeH (i := 0) (v := _) rfl (by kernel_rfl) (by kernel_rfl) (by kernel_rfl) (fun _ _ _ h => h) (yields_of (by rfl) (fun w' _ => ?_)) inferInstance ?_
      rotate_left
      · (go_simp; try with_reducible rfl)
      try simp only [Act.put, sA]; try simp only [sB, sC]
      refine' takeH (i := 1) (v := _) rfl (by kernel_rfl) (by kernel_rfl) (by kernel_rfl) (fun _ _ _ h => h) (yields_of (by rfl) (fun w' _ => ?_)) inferInstance ?_
      rotate_left
      · (go_simp; try with_reducible rfl)
      try simp only [Act.put, sA]; try simp only [sB, sC]
      refine' takeH (i := 2) (v := _) rfl (by kernel_rfl) (by kernel_rfl) (by kernel_rfl) (fun _ _ _ h => h) (yields_of (by rfl) (fun w' _ => ?_)) inferInstance ?_
      rotate_left
      · ((with_reducible apply ev_sl_h); (exact rfl); (exact rfl); infer_instance; (first | (with_reducible assumption) | omega))
      try simp only [Act.put, sA]; try simp only [sB, sC]
      refine' takeH (i := 4) (v := _) rfl (by kernel_rfl) (by kernel_rfl) (by kernel_rfl) (fun _ _ _ h => h) (yields_of (by rfl) (fun w' _ => ?_)) inferInstance ?_
      rotate_left
      · (go_simp; try with_reducible rfl)
      try simp only [Act.put, sA]; try simp only [sB, sC]
      refine' takeH (i := 5) (v := _) rfl (by kernel_rfl) (by kernel_rfl) (by kernel_rfl) (fun _ _ _ h => h) (yields_of (by rfl) (fun w' _ => ?_)) inferInstance ?_
      rotate_left
      · (go_simp; try with_reducible rfl)
      try simp only [Act.put, sA]; try simp only [sB, sC]
      refine' takeH (i := 6) (v := _) rfl (by kernel_rfl) (by kernel_rfl) (by kernel_rfl) (fun _ _ _ h => h) (yields_of (by rfl) (fun w' _ => ?_)) inferInstance ?_
      rotate_left
      · ((with_reducible apply ev_sl_l); (exact rfl); (exact rfl); infer_instance; (first | (with_reducible assumption) | omega))
      try simp only [Act.put, sA]; try simp only [sB, sC]
      refine goH (i := 3) (by kernel_rfl) rfl (fun K_ hK_ => ?_)
      go_simp
      refine (HIH.out KH hK2 A KH c (l.take KH) _ (HR.takeR inferInstance KH) rfl HT.out hKc (by omega)).mono ?_
      rw [← HR1.out]
      rintro e w2 ⟨rfl, _⟩
      refine hK_.out _ _ inferInstance (fun _ => ?_)
      clear hK_ K_
      try simp only [Act.put, sA]; try simp only [sB, sC]
      refine goH (i := 7) (by kernel_rfl) rfl (fun K_ hK_ => ?_)
      go_simp
      refine (HIH.out (n - KH) hK3 _ (n - KH) (c - KH) (l.drop KH) _ (HR.cutR inferInstance hl hnc KH 32 rfl) rfl HD.out (by omega) (by omega)).mono ?_
      rw [← HR2.out]
      rintro e w3 ⟨rfl, _⟩
      refine hK_.out _ _ inferInstance (fun _ => ?_)
      clear hK_ K_
      try simp only [Act.put, sA]; try simp only [sB, sC]
      refine goH (i := 8) (by kernel_rfl) rfl (fun K_ hK_ => ?_)
      go_simp
      refine (rnodeC R1 R2 _).mono ?_
      rintro e w4 ⟨rfl, _⟩
      refine hK_.out _ _ inferInstance (fun _ => ?_)
      clear hK_ K_
      try simp only [Act.put, sA]; try simp only [sB, sC]
      refine goH (i := 9) (by kernel_rfl) rfl (fun K_ hK_ => ?_)
      rw [if_pos (by kernel_rfl)]
      refine wpr_of_list ?_
      (first | ((with_reducible apply wpl_storerow); (exact rfl); (exact rfl); infer_instance; infer_instance; (first | (with_reducible assumption) | (with_reducible exact H32.size _) | kernel_rfl); (first | (with_reducible assumption) | (with_reducible exact H32.size _) | kernel_rfl); (first | (with_reducible exact u8s_one _) | (with_reducible assumption) | kernel_rfl); intro ws _ _) | ((with_reducible apply (wpl_storeint (t := 3))); (exact rfl); (exact rfl); infer_instance; (first | (with_reducible assumption) | omega); intro ws _ _) | ((with_reducible apply (wpl_storebyte (t := 5))); (exact rfl); (exact rfl); infer_instance; (first | (with_reducible assumption) | omega | (focus (simp; done)) | (focus (simp; omega; done)) | decide); (constructor <;> omega); intro ws _ _) | ((with_reducible apply wpl_storecell); (exact rfl); (exact rfl); infer_instance; (exact rfl); (first | (with_reducible assumption) | omega | (focus (simp; done)) | (focus (simp; omega; done)) | decide); intro ws _ _) | ((with_reducible apply (wpl_storehash (t := 26))); (exact rfl); (exact rfl); infer_instance; infer_instance; (first | (with_reducible assumption) | omega | (focus (simp; done)) | (focus (simp; omega; done)) | decide); intro ws _ _))
      refine wpList_nil ?_
      unfold onlyN
      refine hK_.out _ _ inferInstance (fun _ => ?_)
      clear hK_ K_
      try simp only [Act.put]
      refine wpAnyH_done (by kernel_rfl) ?_ _
      go_wp2_with fail
      exact ret_row rfl rfl (n := 32) (H32.size _) rfl ⟨rfl, stepN⟩
theorem pathA_lo (l : List H32) (j n : Nat) (hl : l.length = n) (h : 2 ≤ n) (hj : j < halfN n) : pathA l (j : Int) = pathA (l.take (halfN n)) (j : Int) ++ [rootL (l.drop (halfN n))] := by
  subst hl
  have hh := halfN_in l.length h
  rw [pathA, if_neg (by omega), pathA, if_neg (by rw [List.length_take]; omega), show ((j : Int)).toNat = j by omega, pathL_lo l j h hj]
theorem pathA_hi (l : List H32) (j n : Nat) (hl : l.length = n) (h : 2 ≤ n) (hj : halfN n ≤ j) (hjn : j < n) : pathA l (j : Int) = pathA (l.drop (halfN n)) ((j - halfN n : Nat) : Int) ++ [rootL (l.take (halfN n))] := by
  subst hl
  have hh := halfN_in l.length h
  rw [pathA, if_neg (by omega), pathA, if_neg (by rw [List.length_drop]; omega), show ((j : Int)).toNat = j by omega, show (((j - halfN l.length : Nat) : Int)).toNat = j - halfN l.length by omega, pathL_hi l j h (by omega)]
set_option maxRecDepth 100000 in
set_option maxHeartbeats 1600000 in
theorem rpath_calls : ∀ (d : Nat) (A : Option Addr) (n c : Nat) (l : List H32) (i : Int) (w : World) (_ : HR w A (cellsOf l)), n = d → l.length = n → n ≤ c → n ≤ 1000 →
    Calls Tryz.prog 41 #[.slice A n c, .int .i64 i] w fun e w' => ∃ A' c', e = .returned (.slice A' (pathA l i).length c') ∧ Step nowhere w w' ∧ NewA w A' ∧ HO w' 26 32 A' (pathA l i).length c' (cellsOf (pathA l i)) := by
  intro d
  induction d using Nat.strongRecOn with
  | _ d ih =>
    intro A n c l i w hr hd hl hnc hn
    have HIH := Lib.hid ih
    clear ih
    by_cases h0 : i < 0
    · have hs : pathA l i = [] := if_pos (.inl h0)
      rw [hs]
      clear hs hd
      go_enter Tryz.func41, Tryz.ntmps41
      go_wp2_with fail
      go_ret
      exact ⟨none, 0, rfl, stepN, NewA.of_none _, ⟨Own.nil _ _ _⟩⟩
    by_cases h1 : (n : Int) ≤ i
    · have hs : pathA l i = [] := if_pos (.inr (by omega))
      rw [hs]
      clear hs hd
      go_enter Tryz.func41, Tryz.ntmps41
      go_wp2_with fail
      go_ret
      exact ⟨none, 0, rfl, stepN, NewA.of_none _, ⟨Own.nil _ _ _⟩⟩
    obtain ⟨j, hj⟩ : ∃ j : Nat, i = (j : Int) := ⟨i.toNat, by omega⟩
    subst hj
    have hjn : j < n := by omega
    by_cases h2 : (n : Int) < 2
    · have hs : pathA l (j : Int) = [] := by rw [pathA, if_neg (by omega)]; exact pathL_small _ _ (by omega)
      rw [hs]
      clear hs hd
      go_enter Tryz.func41, Tryz.ntmps41
      go_wp2_with fail
      go_ret
      exact ⟨none, 0, rfl, stepN, NewA.of_none _, ⟨Own.nil _ _ _⟩⟩
    have hh := halfN_in n (by omega)
    obtain ⟨P, hP⟩ : ∃ P, P = pathA l (j : Int) := ⟨_, rfl⟩
    obtain ⟨KH, hK⟩ : ∃ KH, KH = halfN n := ⟨_, rfl⟩
    have hK1 : KH < n := by omega
    have hK2 : KH < d := by omega
    have hK3 : n - KH < d := by omega
    have hKc : KH ≤ c := by omega
    have hKn : KH ≤ n := by omega
    have hn2 : 2 ≤ n := by omega
    have HK' := Lib.hid hK
    have HT : Hid ((l.take KH).length = KH) := Lib.hid (by rw [List.length_take]; omega)
    have HD : Hid ((l.drop KH).length = n - KH) := Lib.hid (by rw [List.length_drop]; omega)
    rw [← hP]
    by_cases hjK : j < KH
    · have hjI : (j : Int) < KH := by omega
      have hs := pathA_lo l j n hl hn2 (by omega)
      rw [← hK, ← hP] at hs
      obtain ⟨P1, hP1⟩ : ∃ x, x = pathA (l.take KH) (j : Int) := ⟨_, rfl⟩
      obtain ⟨R2, hR2⟩ : ∃ x, x = rootL (l.drop KH) := ⟨_, rfl⟩
      have hlen : P1.length ≤ 1000 := by have := pathA_len (l.take KH) (j : Int); rw [hP1]; rw [HT.out] at this; omega
      rw [← hP1, ← hR2] at hs
      have HP1 := Lib.hid hP1
      have HR2 := Lib.hid hR2
      have kb := run_oneH R2
      rw [hs]
      clear hs hK hd hh hP1 hR2 hP hjK
      go_enter Tryz.func41, Tryz.ntmps41
      go_wp2_with fail
      refine (half_calls n _ hn2 hn).mono ?_
      rw [← HK'.out]
      rintro e w1 ⟨rfl, _⟩
      go_wp2_with fail
      refine wp_region_N (nowhere) (by kernel_rfl) (fun wd _ _ => ?_)
      refine' takeH (i := 0) (v := _) rfl (by kernel_rfl) (by kernel_rfl) (by kernel_rfl) (fun _ _ _ h => h) (yields_of (by rfl) (fun w' _ => ?_)) inferInstance ?_
      rotate_left
      · (go_simp; try with_reducible rfl)
      try simp only [Act.put, sA]; try simp only [sB, sC]
      refine' takeH (i := 1) (v := _) rfl (by kernel_rfl) (by kernel_rfl) (by kernel_rfl) (fun _ _ _ h => h) (yields_of (by rfl) (fun w' _ => ?_)) inferInstance ?_
      rotate_left
      · (go_simp; try with_reducible rfl)
      try simp only [Act.put, sA]; try simp only [sB, sC]
      refine' takeH (i := 2) (v := _) rfl (by kernel_rfl) (by kernel_rfl) (by kernel_rfl) (fun _ _ _ h => h) (yields_of (by rfl) (fun w' _ => ?_)) inferInstance ?_
      rotate_left
      · ((with_reducible apply ev_sl_h); (exact rfl); (exact rfl); infer_instance; (first | (with_reducible assumption) | omega))
      try simp only [Act.put, sA]; try simp only [sB, sC]
      refine' takeH (i := 3) (v := _) rfl (by kernel_rfl) (by kernel_rfl) (by kernel_rfl) (fun _ _ _ h => h) (yields_of (by rfl) (fun w' _ => ?_)) inferInstance ?_
      rotate_left
      · (go_simp; try with_reducible rfl)
      try simp only [Act.put, sA]; try simp only [sB, sC]
      refine' takeH (i := 5) (v := _) rfl (by kernel_rfl) (by kernel_rfl) (by kernel_rfl) (fun _ _ _ h => h) (yields_of (by rfl) (fun w' _ => ?_)) inferInstance ?_
      rotate_left
      · (go_simp; try with_reducible rfl)
      try simp only [Act.put, sA]; try simp only [sB, sC]
      refine' takeH (i := 6) (v := _) rfl (by kernel_rfl) (by kernel_rfl) (by kernel_rfl) (fun _ _ _ h => h) (yields_of (by rfl) (fun w' _ => ?_)) inferInstance ?_
      rotate_left
      · (go_simp; try with_reducible rfl)
      try simp only [Act.put, sA]; try simp only [sB, sC]
      refine' takeH (i := 7) (v := _) rfl (by kernel_rfl) (by kernel_rfl) (by kernel_rfl) (fun _ _ _ h => h) (yields_of (by rfl) (fun w' _ => ?_)) inferInstance ?_
      rotate_left
      · ((with_reducible apply ev_sl_l); (exact rfl); (exact rfl); infer_instance; (first | (with_reducible assumption) | omega))
      try simp only [Act.put, sA]; try simp only [sB, sC]
      refine goH (i := 4) (by kernel_rfl) rfl (fun K_ hK_ => ?_)
      go_simp
      refine (HIH.out KH hK2 A KH c (l.take KH) _ _ (HR.takeR inferInstance KH) rfl HT.out hKc (by omega)).mono ?_
      rw [← HP1.out]
      rintro e w2 ⟨A1, c1, rfl, _, hnA, _⟩
      have _ : NewA w A1 := NewA.mono hnA
      refine hK_.out _ _ inferInstance (fun _ => ?_)
      clear hK_ K_
      try simp only [Act.put, sA]; try simp only [sB, sC]
      refine goH (i := 8) (by kernel_rfl) rfl (fun K_ hK_ => ?_)
      go_simp
      refine (rroot_calls (n - KH) _ (n - KH) (c - KH) (l.drop KH) _ (HR.cutR inferInstance hl hnc KH 32 rfl) rfl HD.out (by omega) (by omega)).mono ?_
      rw [← HR2.out]
      rintro e w3 ⟨rfl, _⟩
      refine hK_.out _ _ inferInstance (fun _ => ?_)
      clear hK_ K_
      try simp only [Act.put, sA]; try simp only [sB, sC]
      refine goH (i := 9) (by kernel_rfl) rfl (fun K_ hK_ => ?_)
      rw [if_pos (by kernel_rfl)]
      refine wpr_of_list ?_
      (first | ((with_reducible apply wpl_bslice); (exact kb _); intro zb wb _ _ _))
      refine wpList_nil ?_
      unfold onlyN
      refine hK_.out _ _ inferInstance (fun _ => ?_)
      clear hK_ K_
      try simp only [Act.put, sA]; try simp only [sB, sC]
      refine goH (i := 10) (by kernel_rfl) rfl (fun K_ hK_ => ?_)
      rw [if_pos (by kernel_rfl)]
      refine wpr_of_list ?_
      (first | ((with_reducible apply wpl_bslice); (exact kb _); intro zb wb _ _ _) | ((with_reducible apply wpl_appendB); (exact rfl); (exact rfl); infer_instance; (first | exact inferInstance | exact ⟨Own.nil _ _ _⟩); infer_instance; (first | (with_reducible assumption) | (with_reducible exact H32.len _) | (focus (simp; done)) | omega); (first | (with_reducible assumption) | omega); intro A' c' wa _ _ _ hcap) | ((with_reducible apply wpl_appendH); (exact rfl); (exact rfl); infer_instance; (first | exact inferInstance | exact ⟨Own.nil _ _ _⟩); infer_instance; (first | (with_reducible assumption) | omega); intro A' c' wa _ _ _ hcap))
      refine wpList_nil ?_
      unfold onlyN
      refine hK_.out _ _ inferInstance (fun _ => ?_)
      clear hK_ K_
      try simp only [Act.put, sA]; try simp only [sB, sC]
      refine' takeH (i := 11) (v := _) rfl (by kernel_rfl) (by kernel_rfl) (by kernel_rfl) (fun _ _ _ h => h) (yields_of (by rfl) (fun w' _ => ?_)) inferInstance ?_
      rotate_left
      · (go_simp; try with_reducible rfl)
      try simp only [Act.put, sA]; try simp only [sB, sC]
      refine wpAnyH_done (by kernel_rfl) ?_ _
      go_wp2_with fail
      go_ret
      rw [show (P1 ++ [R2]).length = P1.length + 1 by simp]
      exact ⟨_, _, rfl, stepN, inferInstance, inferInstance⟩
    · have hjI : ¬ (j : Int) < KH := by omega
      have hs := pathA_hi l j n hl hn2 (by omega) hjn
      rw [← hK, ← hP] at hs
      obtain ⟨P1, hP1⟩ : ∃ x, x = pathA (l.drop KH) ((j - KH : Nat) : Int) := ⟨_, rfl⟩
      obtain ⟨R2, hR2⟩ : ∃ x, x = rootL (l.take KH) := ⟨_, rfl⟩
      have hlen : P1.length ≤ 1000 := by have := pathA_len (l.drop KH) ((j - KH : Nat) : Int); rw [hP1]; rw [HD.out] at this; omega
      rw [← hP1, ← hR2] at hs
      have HP1 := Lib.hid hP1
      have HR2 := Lib.hid hR2
      have kb := run_oneH R2
      have HJ : Hid ((j : Int) - KH = ((j - KH : Nat) : Int)) := Lib.hid (by omega)
      rw [hs]
      clear hs hK hd hh hP1 hR2 hP hjK
      go_enter Tryz.func41, Tryz.ntmps41
      go_wp2_with fail
      refine (half_calls n _ hn2 hn).mono ?_
      rw [← HK'.out]
      rintro e w1 ⟨rfl, _⟩
      go_wp2_with fail
      have hwr : IntKind.i64.wrap ((j : Int) - KH) = ((j - KH : Nat) : Int) := by rw [IntKind.wrap_i64]; omega
      refine wp_region_N (nowhere) (by kernel_rfl) (fun wd _ _ => ?_)
      refine' takeH (i := 0) (v := _) rfl (by kernel_rfl) (by kernel_rfl) (by kernel_rfl) (fun _ _ _ h => h) (yields_of (by rfl) (fun w' _ => ?_)) inferInstance ?_
      rotate_left
      · (go_simp; try with_reducible rfl)
      try simp only [Act.put, sA]; try simp only [sB, sC]
      refine' takeH (i := 1) (v := _) rfl (by kernel_rfl) (by kernel_rfl) (by kernel_rfl) (fun _ _ _ h => h) (yields_of (by rfl) (fun w' _ => ?_)) inferInstance ?_
      rotate_left
      · (go_simp; try with_reducible rfl)
      try simp only [Act.put, sA]; try simp only [sB, sC]
      refine' takeH (i := 2) (v := _) rfl (by kernel_rfl) (by kernel_rfl) (by kernel_rfl) (fun _ _ _ h => h) (yields_of (by rfl) (fun w' _ => ?_)) inferInstance ?_
      rotate_left
      · ((with_reducible apply ev_sl_l); (exact rfl); (exact rfl); infer_instance; (first | (with_reducible assumption) | omega))
      try simp only [Act.put, sA]; try simp only [sB, sC]
      refine' takeH (i := 3) (v := _) rfl (by kernel_rfl) (by kernel_rfl) (by kernel_rfl) (fun _ _ _ h => h) (yields_of (by rfl) (fun w' _ => ?_)) inferInstance ?_
      rotate_left
      · (go_simp; try with_reducible rfl)
      try simp only [Act.put, sA]; try simp only [sB, sC]
      refine' takeH (i := 4) (v := _) rfl (by kernel_rfl) (by kernel_rfl) (by kernel_rfl) (fun _ _ _ h => h) (yields_of (by rfl) (fun w' _ => ?_)) inferInstance ?_
      rotate_left
      · (go_simp; try with_reducible rfl)
      try simp only [Act.put, sA]; try simp only [sB, sC]
      refine' takeH (i := 5) (v := _) rfl (by kernel_rfl) (by kernel_rfl) (by kernel_rfl) (fun _ _ _ h => h) (yields_of (by rfl) (fun w' _ => ?_)) inferInstance ?_
      rotate_left
      · (go_simp; try with_reducible rfl)
      try simp only [Act.put, sA]; try simp only [sB, sC]
      refine' takeH (i := 7) (v := _) rfl (by kernel_rfl) (by kernel_rfl) (by kernel_rfl) (fun _ _ _ h => h) (yields_of (by rfl) (fun w' _ => ?_)) inferInstance ?_
      rotate_left
      · (go_simp; try with_reducible rfl)
      try simp only [Act.put, sA]; try simp only [sB, sC]
      refine' takeH (i := 8) (v := _) rfl (by kernel_rfl) (by kernel_rfl) (by kernel_rfl) (fun _ _ _ h => h) (yields_of (by rfl) (fun w' _ => ?_)) inferInstance ?_
      rotate_left
      · (go_simp; try with_reducible rfl)
      try simp only [Act.put, sA]; try simp only [sB, sC]
      refine' takeH (i := 9) (v := _) rfl (by kernel_rfl) (by kernel_rfl) (by kernel_rfl) (fun _ _ _ h => h) (yields_of (by rfl) (fun w' _ => ?_)) inferInstance ?_
      rotate_left
      · ((with_reducible apply ev_sl_h); (exact rfl); (exact rfl); infer_instance; (first | (with_reducible assumption) | omega))
      try simp only [Act.put, sA]; try simp only [sB, sC]
      refine goH (i := 6) (by kernel_rfl) rfl (fun K_ hK_ => ?_)
      go_simp
      skip
      refine (HIH.out (n - KH) hK3 _ (n - KH) (c - KH) (l.drop KH) _ _ (HR.cutR inferInstance hl hnc KH 32 rfl) rfl HD.out (by omega) (by omega)).mono ?_
      rw [← HP1.out]
      rintro e w2 ⟨A1, c1, rfl, _, hnA, _⟩
      have _ : NewA w A1 := NewA.mono hnA
      refine hK_.out _ _ inferInstance (fun _ => ?_)
      clear hK_ K_
      try simp only [Act.put, sA]; try simp only [sB, sC]
      refine goH (i := 10) (by kernel_rfl) rfl (fun K_ hK_ => ?_)
      go_simp
      refine (rroot_calls KH A KH c (l.take KH) _ (HR.takeR inferInstance KH) rfl HT.out hKc (by omega)).mono ?_
      rw [← HR2.out]
      rintro e w3 ⟨rfl, _⟩
      refine hK_.out _ _ inferInstance (fun _ => ?_)
      clear hK_ K_
      try simp only [Act.put, sA]; try simp only [sB, sC]
      refine goH (i := 11) (by kernel_rfl) rfl (fun K_ hK_ => ?_)
      rw [if_pos (by kernel_rfl)]
      refine wpr_of_list ?_
      (first | ((with_reducible apply wpl_bslice); (exact kb _); intro zb wb _ _ _))
      refine wpList_nil ?_
      unfold onlyN
      refine hK_.out _ _ inferInstance (fun _ => ?_)
      clear hK_ K_
      try simp only [Act.put, sA]; try simp only [sB, sC]
      refine goH (i := 12) (by kernel_rfl) rfl (fun K_ hK_ => ?_)
      rw [if_pos (by kernel_rfl)]
      refine wpr_of_list ?_
      (first | ((with_reducible apply wpl_bslice); (exact kb _); intro zb wb _ _ _) | ((with_reducible apply wpl_appendB); (exact rfl); (exact rfl); infer_instance; (first | exact inferInstance | exact ⟨Own.nil _ _ _⟩); infer_instance; (first | (with_reducible assumption) | (with_reducible exact H32.len _) | (focus (simp; done)) | omega); (first | (with_reducible assumption) | omega); intro A' c' wa _ _ _ hcap) | ((with_reducible apply wpl_appendH); (exact rfl); (exact rfl); infer_instance; (first | exact inferInstance | exact ⟨Own.nil _ _ _⟩); infer_instance; (first | (with_reducible assumption) | omega); intro A' c' wa _ _ _ hcap))
      refine wpList_nil ?_
      unfold onlyN
      refine hK_.out _ _ inferInstance (fun _ => ?_)
      clear hK_ K_
      try simp only [Act.put, sA]; try simp only [sB, sC]
      refine' takeH (i := 13) (v := _) rfl (by kernel_rfl) (by kernel_rfl) (by kernel_rfl) (fun _ _ _ h => h) (yields_of (by rfl) (fun w' _ => ?_)) inferInstance ?_
      rotate_left
      · (go_simp; try with_reducible rfl)
      try simp only [Act.put, sA]; try simp only [sB, sC]
      refine wpAnyH_done (by kernel_rfl) ?_ _
      go_wp2_with fail
      go_ret
      rw [show (P1 ++ [R2]).length = P1.length + 1 by simp]
      exact ⟨_, _, rfl, stepN, inferInstance, inferInstance⟩
end Go.Proofs.YtmnapacibpnodaaGreat
end
section
open Go Go.RowKit
namespace Go.Proofs.YtmnapacibpnodaaGreat
theorem upL_snoc (o : H32) : ∀ (p : List H32) (h : H32) (i : Nat), upL h i (p ++ [o]) = if (i / 2 ^ p.length) % 2 = 0 then nodeH (upL h i p) o else nodeH o (upL h i p)
  | [], h, i => by simp [upL]
  | x :: p, h, i => by
    rw [List.cons_append, upL, upL_snoc o p, upL, List.length_cons, Nat.pow_succ, Nat.mul_comm, Nat.div_div_eq_div_mul]
theorem upL_mod : ∀ (p : List H32) (h : H32) (i k : Nat), upL h (i + 2 ^ p.length * k) p = upL h i p
  | [], h, i, k => by simp [upL]
  | x :: p, h, i, k => by
    have e1 : (i + 2 ^ (x :: p).length * k) % 2 = i % 2 := by rw [List.length_cons, Nat.pow_succ, Nat.mul_comm (2 ^ p.length) 2, Nat.mul_assoc]; omega
    have e2 : (i + 2 ^ (x :: p).length * k) / 2 = i / 2 + 2 ^ p.length * k := by rw [List.length_cons, Nat.pow_succ, Nat.mul_comm (2 ^ p.length) 2, Nat.mul_assoc]; omega
    rw [upL, e1, e2, upL_mod p, upL]
theorem half_pow (h : Nat) : halfN (2 ^ (h + 1)) = 2 ^ h := by
  have h1 : 1 ≤ 2 ^ h := Nat.one_le_two_pow
  exact (halfN_of (2 ^ (h + 1)) h (by rw [Nat.pow_succ]; omega) (by rw [Nat.pow_succ]; omega)).symm
theorem hget_take (l : List H32) (k i : Nat) (h : i < k) : hget (l.take k) i = hget l i := by simp [hget, List.getD_eq_getElem?_getD, h]
theorem hget_drop (l : List H32) (k i : Nat) : hget (l.drop k) i = hget l (k + i) := by simp [hget, List.getD_eq_getElem?_getD]
theorem up_root : ∀ (h : Nat) (l : List H32) (i : Nat), l.length = 2 ^ h → i < l.length → (pathL l i).length = h ∧ upL (hget l i) i (pathL l i) = rootL l
  | 0, l, i, hl, hi => by
    rw [pathL_small l i (by rw [hl]; decide)]
    obtain ⟨x, rfl⟩ := List.length_eq_one_iff.1 (hl.trans (by decide))
    have : i = 0 := by simpa using hi
    subst this
    exact ⟨rfl, rfl⟩
  | h + 1, l, i, hl, hi => by
    have h1 : 1 ≤ 2 ^ h := Nat.one_le_two_pow
    have hp : 2 ^ (h + 1) = 2 ^ h + 2 ^ h := by rw [Nat.pow_succ]; omega
    have h2 : 2 ≤ l.length := by omega
    have hh : halfN l.length = 2 ^ h := by rw [hl, half_pow]
    have hr := rootL_two l h2
    rw [hh] at hr
    by_cases hlo : i < 2 ^ h
    · obtain ⟨i1, i2⟩ := up_root h (l.take (2 ^ h)) i (by rw [List.length_take]; omega) (by rw [List.length_take]; omega)
      rw [hget_take _ _ _ hlo] at i2
      rw [pathL_lo l i h2 (by rw [hh]; exact hlo), hh, upL_snoc, i1, i2, Nat.div_eq_of_lt hlo, if_pos (by decide), hr]
      exact ⟨by rw [List.length_append, i1]; rfl, rfl⟩
    · obtain ⟨i1, i2⟩ := up_root h (l.drop (2 ^ h)) (i - 2 ^ h) (by rw [List.length_drop]; omega) (by rw [List.length_drop]; omega)
      rw [hget_drop, show 2 ^ h + (i - 2 ^ h) = i by omega] at i2
      have hm := upL_mod (pathL (l.drop (2 ^ h)) (i - 2 ^ h)) (hget l i) (i - 2 ^ h) 1
      rw [i1, Nat.mul_one, show i - 2 ^ h + 2 ^ h = i by omega] at hm
      have hd : i / 2 ^ h = 1 := (Nat.div_eq_iff (by omega)).2 (by omega)
      rw [pathL_hi l i h2 (by rw [hh]; exact hlo), hh, upL_snoc, i1, hm, i2, hd, if_neg (by decide), hr]
      exact ⟨by rw [List.length_append, i1]; rfl, rfl⟩
end Go.Proofs.YtmnapacibpnodaaGreat
end
section
open Go Go.RowKit
namespace Go.Proofs.YtmnapacibpnodaaGreat
section
variable {leaf : Int} {l p : List H32} {more : List UInt8}
theorem verify_sign (seed : H32) (used : Int) (m : List UInt8) (h0 : 0 ≤ used) (h16 : used < 16) : verifyS (pubS seed) m used (signS seed used m) (pathA (leavesS seed) used) = true := by
  obtain ⟨k, rfl⟩ := Int.eq_ofNat_of_zero_le h0
  have hk : k < 16 := by omega
  have hpa : pathA (leavesS seed) (k : Int) = pathL (leavesS seed) k := by
    unfold pathA
    rw [if_neg (by rw [leavesS_len]; omega)]
    rfl
  obtain ⟨h1, h2⟩ := up_root 4 (leavesS seed) k (leavesS_len seed) (by rw [leavesS_len]; exact hk)
  have h3 : hget (leavesS seed) k = publicS seed (k : Int) := by simp [hget, leavesS, List.getD_eq_getElem?_getD, hk]
  unfold verifyS
  rw [hpa, recover_sign, ← h3, show ((k : Int)).toNat = k from rfl, h2, signS_len, h1]
  simp [isS, pubS]
  omega
end
end Go.Proofs.YtmnapacibpnodaaGreat
end
section
open Go Go.RowKit
namespace Go.Proofs.YtmnapacibpnodaaGreat
def markOf (r : MarkR) : H32 × Int × List H32 × List H32 := (r.key, r.leaf, r.l, r.p)
/-- what the key of seed i signs with its leaf j -/
def sigAt (m : List UInt8) (i j : Nat) : H32 × Int × List H32 × List H32 := (pubN i, (j : Int), signS (seedN i) j m, pathA (leavesS (seedN i)) j)
def sigsOf (m : List UInt8) (twice : Bool) (i : Nat) : List (H32 × Int × List H32 × List H32) := if (twice && i == 0) = true then [sigAt m i 0, sigAt m i 1] else [sigAt m i 0]
def bitN (which : Int) (i : Nat) : Bool := bits .and .i64 (which / 2 ^ i) 1 == 1
def setBits (which : Int) (k : Nat) : List Nat := (List.range k).filter (bitN which)
def allSigs (m : List UInt8) (which : Int) (twice : Bool) (k : Nat) : List (H32 × Int × List H32 × List H32) := (setBits which k).flatMap (sigsOf m twice)
/-- the keys of the first seeds -/
def pubsN (k : Nat) : List H32 := (List.range k).map pubN
theorem pubN_inj (i j : Nat) (hi : i < 3) (hj : j < 3) (h : pubN i = pubN j) : i = j := by
  rcases (show i = 0 ∨ i = 1 ∨ i = 2 by omega) with rfl | rfl | rfl
  · rcases (show j = 0 ∨ j = 1 ∨ j = 2 by omega) with rfl | rfl | rfl
    · exact rfl
    · exact absurd h pubN01
    · exact absurd h pubN02
  · rcases (show j = 0 ∨ j = 1 ∨ j = 2 by omega) with rfl | rfl | rfl
    · exact absurd h.symm pubN01
    · exact rfl
    · exact absurd h pubN12
  · rcases (show j = 0 ∨ j = 1 ∨ j = 2 by omega) with rfl | rfl | rfl
    · exact absurd h.symm pubN02
    · exact absurd h.symm pubN12
    · exact rfl
/-- does this mark tell that the key has signed -/
def tells (m : List UInt8) (h : H32) (x : H32 × Int × List H32 × List H32) : Bool := decide (x.1 = h) && verifyS h m x.2.1 x.2.2.1 x.2.2.2
theorem any_tells (m : List UInt8) (h : H32) (l : List MarkR) : l.any (signsB m h) = (l.map markOf).any (tells m h) := by
  rw [List.any_map]
  rfl
theorem tells_sig (m : List UInt8) (i j n : Nat) (hi : i < 3) (hj : j < 3) (hn : n < 16) : tells m (pubN i) (sigAt m j n) = decide (j = i) := by
  by_cases h : j = i
  · subst h
    have h1 := verify_sign (seedN j) (n : Int) m (by omega) (by omega)
    show (decide (pubN j = pubN j) && verifyS (pubS (seedN j)) m (n : Int) (signS (seedN j) n m) (pathA (leavesS (seedN j)) n)) = _
    rw [h1]
    simp
  · have h1 : pubN j ≠ pubN i := fun e => h (pubN_inj j i hj hi e)
    show (decide (pubN j = pubN i) && _) = _
    simp [h, h1]
end Go.Proofs.YtmnapacibpnodaaGreat
end
