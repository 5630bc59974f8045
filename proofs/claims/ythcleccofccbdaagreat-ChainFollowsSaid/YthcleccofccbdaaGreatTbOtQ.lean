/- OtQ -/
import Derived.Test.YthcleccofccbdaaGreatTbOtP
open Go Go.RowKit
namespace Go.Proofs.YthcleccofccbdaaGreat
set_option maxRecDepth 100000 in
set_option maxHeartbeats 800000 in
theorem rwalk_calls (h : H32) (chain f t : Int) (w : World) :
    Calls Tryz.prog 209 #[.agg (u8s h.l), .int .i64 chain, .int .i64 f, .int .i64 t] w fun e w' => e = .returned (.agg (u8s (walkS chain f t h).l)) ∧ Step nowhere w w' := by
  obtain ⟨s, hs⟩ : ∃ s : Nat, (s : Int) = max f 0 := ⟨(max f 0).toNat, by omega⟩
  have hs' : max f 0 = (s : Int) := hs.symm
  obtain ⟨n, hn⟩ : ∃ n : Nat, n = (min t 3 - max f 0).toNat := ⟨_, rfl⟩
  have HN := Lib.hid hn
  have HS : Hid ((max f 0).toNat = s) := Lib.hid (by omega)
  have hn1 : (s : Int) + n ≤ 3 ∨ n = 0 := by omega
  have hn2 : ∀ k : Nat, k < n → (s : Int) + k < min t 3 := fun k hk => by omega
  have HE : Hid (∀ k : Nat, k ≤ n → ¬ k < n → ¬ (s : Int) + k < min t 3) := Lib.hid (fun k h1 h2 => by omega)
  have HL := Lib.hid hn2
  clear hn hs hn2
  go_enter Tryz.func209, Tryz.ntmps209
  go_wp2_with (first | ((with_reducible apply (wpl_box_agg (dst := some 4))); (exact rfl); intro zh wzh _ _ _) | ((with_reducible apply (wpl_alloc (dst := some 8))); intro zo wzo _ _ _) | ((with_reducible apply wpl_max); (exact rfl); (exact rfl)))
  go_loopw [9] (fun i wr => ∃ k : Nat, k ≤ n ∧ i = .int .i64 ((s : Int) + k) ∧ Step nowhere w wr ∧ HB wr zo 47 (u8s zeroH.l) ∧ HB wr zh 47 (u8s (walkN chain s k h).l)) (fun i _ => (s + n) - (intOf i).toNat)
  case atStart => exact ⟨0, Nat.zero_le _, by rw [Int.natCast_zero, Int.add_zero], stepN, inferInstance, inferInstance⟩
  case round =>
    obtain ⟨k, hk, rfl, _, _, _⟩ := hrel
    by_cases hlt : k < n
    · have hlt3 := HL.out k hlt
      have kb2 : ∀ w, (Instr.buildSlice 26 3 #[(0, .int .u8 1), (1, .int .u8 (chain % 256)), (2, .int .u8 ((s : Int) + k))]).run Tryz.prog w = .ok (.slice (some ⟨w.heap.size, 0, none⟩) 3 3) (w.alloc (.cells (u8s [1, b8 chain, b8 ((s : Int) + k)]) 5)) := fun _ => by rw [mod_b8, b8_in (n := (s : Int) + k) (by omega) (by omega), b8_self]; kernel_rfl
      have hm1 : Fact' ([(1 : UInt8), b8 chain, b8 ((s : Int) + k)].length ≤ maxLen) := ⟨by simp [maxLen]⟩
      go_wp2_with (first | ((with_reducible apply wpl_bslice); (exact kb2 _); intro zb wb _ _ _) | ((with_reducible apply wpl_min); (exact rfl); (exact rfl)) | ((with_reducible apply wpl_appendB); (exact rfl); (exact rfl); infer_instance; (first | exact inferInstance | exact ⟨Own.nil _ _ _⟩); infer_instance; (first | (with_reducible assumption) | (with_reducible exact H32.len _) | (focus (simp; done)) | omega); (first | (with_reducible assumption) | omega); intro A' c' wa _ _ _ hcap))
      refine (rsum_calls (xs := [1, b8 chain, b8 ((s : Int) + k)] ++ (walkN chain s k h).l) (by simp) (by decide)).mono ?_
      rintro e w5 ⟨rfl, _⟩
      go_wp2_with (first | ((with_reducible apply wpl_storerow); (exact rfl); (exact rfl); infer_instance; infer_instance; (first | (with_reducible assumption) | (with_reducible exact H32.size _) | kernel_rfl); (first | (with_reducible assumption) | (with_reducible exact H32.size _) | kernel_rfl); (first | (with_reducible exact u8s_one _) | (with_reducible assumption) | kernel_rfl); intro ws _ _))
      refine ⟨⟨k + 1, by omega, by go_num, stepN, inferInstance, ?_⟩, by simp [intOf]; omega⟩
      rw [walkN_snoc]
      exact inferInstance
    · have hge := HE.out k hk hlt
      have hge' : ¬ (s : Int) + k < min t 3 := by omega
      have hkn : Hid (k = n) := Lib.hid (by omega)
      go_wp2_with (first | ((with_reducible apply wpl_loadrow); (exact rfl); infer_instance; infer_instance; (first | (with_reducible assumption) | (with_reducible exact H32.size _) | kernel_rfl)) | ((with_reducible apply wpl_storerow); (exact rfl); (exact rfl); infer_instance; infer_instance; (first | (with_reducible assumption) | (with_reducible exact H32.size _) | kernel_rfl); (first | (with_reducible assumption) | (with_reducible exact H32.size _) | kernel_rfl); (first | (with_reducible exact u8s_one _) | (with_reducible assumption) | kernel_rfl); intro ws _ _) | ((with_reducible apply wpl_min); (exact rfl); (exact rfl)))
      refine ret_row rfl rfl (n := 32) (H32.size _) rfl ⟨?_, stepN⟩
      rw [hkn.out, walkS, HS.out, HN.out]
set_option maxRecDepth 100000 in
set_option maxHeartbeats 800000 in
theorem rrecoverW_calls {A B : Option Addr} {n c nl cl : Nat} {m : List UInt8} {l : List H32} {w : World} [HR w A (bs m)] [HR w B (cellsOf l)] (hl : m.length = n) (hn : n ≤ 140737488351232) (hll : l.length = nl) :
    Calls Tryz.prog 200 #[.slice A n c, .slice B nl cl] w fun e w' => e = .returned (.tuple #[.agg (u8s (if nl = 36 then recoverS m l else zeroH).l), .bool (decide (nl = 36))]) ∧ Step nowhere w w' := by
  have hd := digitsS_len m
  have hsz : (i64s (digitsS m)).size = 36 := by rw [i64s_size, hd]
  have h1 := i64s_one (digitsS m)
  by_cases h36 : nl = 36
  · have hb : ((nl : Int) != 36) = false := by simp; omega
    rw [if_pos h36, decide_eq_true h36]
    have hge36 : 36 ≤ nl := by omega
    clear h36
    go_enter Tryz.func200, Tryz.ntmps200
    go_wp2_with (first | ((with_reducible apply (wpl_alloc (dst := some 4))); intro zo wzo _ _ _))
    refine (rdigitsW_calls (xs := m) hl hn).mono ?_
    rintro e w4 ⟨rfl, _⟩
    go_wp2_with (first | ((with_reducible apply (wpl_alloc (dst := some 6))); intro zd wzd _ _ _) | ((with_reducible apply wpl_storerow); (exact rfl); (exact rfl); infer_instance; infer_instance; (first | (with_reducible assumption) | (with_reducible exact H32.size _) | kernel_rfl); (first | (with_reducible assumption) | (with_reducible exact H32.size _) | kernel_rfl); (first | (with_reducible exact u8s_one _) | (with_reducible assumption) | kernel_rfl); intro ws _ _))
    go_loopw [7, 8] (fun v i wr => ∃ (k : Nat) (A' : Option Addr) (c' : Nat), k ≤ 36 ∧ i = .int .i64 (k : Int) ∧ v = .slice A' k c' ∧ Step nowhere w wr ∧ HB wr zo 47 (u8s zeroH.l) ∧ HB wr zd 244 (i64s (digitsS m)) ∧ NewA w A' ∧ OffB (rowOf A') zo ∧ OffB (rowOf A') zd ∧ HO wr 47 32 A' k c' (cellsOf (mapH (fun h i => walkS i (iget (digitsS m) i) 3 h) l k))) (fun _ i _ => 36 - (intOf i).toNat)
    case atStart => exact ⟨0, none, 0, Nat.zero_le _, rfl, rfl, stepN, inferInstance, inferInstance, NewA.of_none _, inferInstance, inferInstance, ⟨Own.nil _ _ _⟩⟩
    case round =>
      obtain ⟨k, A', c', hk, rfl, rfl, _, _, _, _, _, _, _⟩ := hrel
      by_cases hlt : k < 36
      · have kb3 := run_oneH (walkS k (iget (digitsS m) k) 3 (hget l k))
        have hkI : (k : Int) < 36 := by omega
        have hkd : k < (digitsS m).length := by omega
        have hkl : k < l.length := by omega
        have hkn : k < nl := by omega
        have hsn : Hid (mapH (fun h i => walkS i (iget (digitsS m) i) 3 h) l (k + 1) = mapH (fun h i => walkS i (iget (digitsS m) i) 3 h) l k ++ [walkS k (iget (digitsS m) k) 3 (hget l k)]) := Lib.hid (by rw [mapH_snoc])
        go_wp2_with fail
        refine wp_region_N ((rowOf A')) (by kernel_rfl) (fun wd _ _ => ?_)
        refine' takeH (i := 0) (v := _) rfl (by kernel_rfl) (by kernel_rfl) (by kernel_rfl) (fun _ _ _ h => h) (yields_of (by rfl) (fun w' _ => ?_)) inferInstance ?_
        rotate_left
        · (go_simp; try with_reducible rfl)
        try simp only [Act.put, sA]; try simp only [sB, sC]
        refine' takeH (i := 1) (v := _) rfl (by kernel_rfl) (by kernel_rfl) (by kernel_rfl) (fun _ _ _ h => h) (yields_of (by rfl) (fun w' _ => ?_)) inferInstance ?_
        rotate_left
        · (go_simp; try with_reducible rfl)
        try simp only [Act.put, sA]; try simp only [sB, sC]
        refine' takeH (i := 2) (v := _) rfl (by kernel_rfl) (by kernel_rfl) (by kernel_rfl) (fun _ _ _ h => h) (yields_of (by rfl) (fun w' _ => ?_)) inferInstance ?_
        rotate_left
        · (go_simp; try with_reducible rfl)
        try simp only [Act.put, sA]; try simp only [sB, sC]
        refine' takeH (i := 3) (v := _) rfl (by kernel_rfl) (by kernel_rfl) (by kernel_rfl) (fun _ _ _ h => h) (yields_of (by rfl) (fun w' _ => ?_)) inferInstance ?_
        rotate_left
        · ((with_reducible apply ev_indexH'); (exact rfl); (exact rfl); infer_instance; infer_instance; (first | (with_reducible assumption) | omega); (first | (with_reducible assumption) | omega); (first | (with_reducible assumption) | omega))
        try simp only [Act.put, sA]; try simp only [sB, sC]
        refine' takeH (i := 4) (v := _) rfl (by kernel_rfl) (by kernel_rfl) (by kernel_rfl) (fun _ _ _ h => h) (yields_of (by rfl) (fun w' _ => ?_)) inferInstance ?_
        rotate_left
        · ((with_reducible apply (ev_loadhash (t := 47))); (exact rfl); infer_instance; infer_instance; (first | (with_reducible assumption) | omega))
        try simp only [Act.put, sA]; try simp only [sB, sC]
        refine' takeH (i := 5) (v := _) rfl (by kernel_rfl) (by kernel_rfl) (by kernel_rfl) (fun _ _ _ h => h) (yields_of (by rfl) (fun w' _ => ?_)) inferInstance ?_
        rotate_left
        · (go_simp; try with_reducible rfl)
        try simp only [Act.put, sA]; try simp only [sB, sC]
        refine' takeH (i := 6) (v := _) rfl (by kernel_rfl) (by kernel_rfl) (by kernel_rfl) (fun _ _ _ h => h) (yields_of (by rfl) (fun w' _ => ?_)) inferInstance ?_
        rotate_left
        · (go_simp; try with_reducible rfl)
        try simp only [Act.put, sA]; try simp only [sB, sC]
        refine' takeH (i := 7) (v := _) rfl (by kernel_rfl) (by kernel_rfl) (by kernel_rfl) (fun _ _ _ h => h) (yields_of (by rfl) (fun w' _ => ?_)) inferInstance ?_
        rotate_left
        · (go_simp; try with_reducible rfl)
        try simp only [Act.put, sA]; try simp only [sB, sC]
        refine' takeH (i := 8) (v := _) rfl (by kernel_rfl) (by kernel_rfl) (by kernel_rfl) (fun _ _ _ h => h) (yields_of (by rfl) (fun w' _ => ?_)) inferInstance ?_
        rotate_left
        · ((with_reducible apply (ev_loadint (t := 3))); (exact rfl); infer_instance; infer_instance; (first | (with_reducible assumption) | omega))
        try simp only [Act.put, sA]; try simp only [sB, sC]
        refine goH (i := 9) (by kernel_rfl) rfl (fun K_ hK_ => ?_)
        go_simp
        refine (rwalk_calls (hget l k) k (iget (digitsS m) k) 3 _).mono ?_
        rintro e w6 ⟨rfl, _⟩
        refine hK_.out _ _ inferInstance (fun _ => ?_)
        clear hK_ K_
        try simp only [Act.put, sA]; try simp only [sB, sC]
        refine goH (i := 10) (by kernel_rfl) rfl (fun K_ hK_ => ?_)
        rw [if_pos (by kernel_rfl)]
        refine wpr_of_list ?_
        (first | ((with_reducible apply wpl_bslice); (exact kb3 _); intro zb wb _ _ _))
        refine wpList_nil ?_
        unfold onlyN
        refine hK_.out _ _ inferInstance (fun _ => ?_)
        clear hK_ K_
        try simp only [Act.put, sA]; try simp only [sB, sC]
        refine goH (i := 11) (by kernel_rfl) rfl (fun K_ hK_ => ?_)
        rw [if_pos (by kernel_rfl)]
        refine wpr_of_list ?_
        (first | ((with_reducible apply wpl_bslice); (exact kb3 _); intro zb wb _ _ _) | ((with_reducible apply wpl_appendB); (exact rfl); (exact rfl); infer_instance; (first | exact inferInstance | exact ⟨Own.nil _ _ _⟩); infer_instance; (first | (with_reducible assumption) | (with_reducible exact H32.len _) | (focus (simp; done)) | omega); (first | (with_reducible assumption) | omega); intro A' c' wa _ _ _ hcap) | ((with_reducible apply wpl_appendH); (exact rfl); (exact rfl); infer_instance; (first | exact inferInstance | exact ⟨Own.nil _ _ _⟩); infer_instance; (first | (with_reducible assumption) | omega); intro A' c' wa _ _ _ hcap))
        refine wpList_nil ?_
        unfold onlyN
        refine hK_.out _ _ inferInstance (fun _ => ?_)
        clear hK_ K_
        try simp only [Act.put, sA]; try simp only [sB, sC]
        refine' takeH (i := 12) (v := _) rfl (by kernel_rfl) (by kernel_rfl) (by kernel_rfl) (fun _ _ _ h => h) (yields_of (by rfl) (fun w' _ => ?_)) inferInstance ?_
        rotate_left
        · (go_simp; try with_reducible rfl)
        try simp only [Act.put, sA]; try simp only [sB, sC]
        refine wpAnyH_done (by kernel_rfl) ?_ _
        go_wp2_with fail
        refine ⟨⟨k + 1, _, _, by omega, by go_num, rfl, stepN, inferInstance, inferInstance, inferInstance, inferInstance, inferInstance, ?_⟩, by simp [intOf]; omega⟩
        rw [hsn.out]
        exact inferInstance
      · obtain rfl : k = 36 := by omega
        go_wp2_with fail
        refine (ends_calls (l := mapH (fun h i => walkS i (iget (digitsS m) i) 3 h) l 36) (mapH_len _ _ _) (by omega)).mono ?_
        rintro e w7 ⟨rfl, _⟩
        go_wp2_with (first | ((with_reducible apply wpl_storerow); (exact rfl); (exact rfl); infer_instance; infer_instance; (first | (with_reducible assumption) | (with_reducible exact H32.size _) | kernel_rfl); (first | (with_reducible assumption) | (with_reducible exact H32.size _) | kernel_rfl); (first | (with_reducible exact u8s_one _) | (with_reducible assumption) | kernel_rfl); intro ws _ _))
        refine ret_row2 (g := zo) (b := true) rfl rfl (n := 32) (H32.size (recoverS m l)) rfl ?_ rfl
        exact ⟨rfl, stepN⟩
  · have hb : ((nl : Int) != 36) = true := by simp; omega
    have kb0 : ∀ w, (Instr.build 47 #[]).run Tryz.prog w = .ok (.agg (u8s zeroH.l)) w := fun _ => by kernel_rfl
    rw [if_neg h36, decide_eq_false h36]
    go_enter Tryz.func200, Tryz.ntmps200
    go_wp2_with (first | ((with_reducible apply wpl_build); (exact kb0 _)) | ((with_reducible apply (wpl_alloc (dst := some 4))); intro zo wzo _ _ _) | ((with_reducible apply wpl_storerow); (exact rfl); (exact rfl); infer_instance; infer_instance; (first | (with_reducible assumption) | (with_reducible exact H32.size _) | kernel_rfl); (first | (with_reducible assumption) | (with_reducible exact H32.size _) | kernel_rfl); (first | (with_reducible exact u8s_one _) | (with_reducible assumption) | kernel_rfl); intro ws _ _))
    refine ret_row2 (g := zo) (b := false) rfl rfl (n := 32) (H32.size zeroH) rfl ?_ rfl
    exact ⟨rfl, stepN⟩
end Go.Proofs.YthcleccofccbdaaGreat
