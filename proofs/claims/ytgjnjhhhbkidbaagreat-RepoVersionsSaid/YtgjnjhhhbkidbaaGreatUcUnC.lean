/- QmE, UnC -/
import Derived.Test.YtgjnjhhhbkidbaaGreatUcQmD
import Derived.Test.YtgjnjhhhbkidbaaGreatUcRoR
section
open Go Go.RowKit Go.WideMaps
namespace Go.Proofs.YtgjnjhhhbkidbaaGreat
set_option maxRecDepth 100000 in
set_option maxHeartbeats 3200000 in
theorem isKeys_calls {A : Option Addr} {n c : Nat} {l : List H32} (need : Int) {w : World} [hr : HR w A (cellsOf l)] (hl : l.length = n) (hmax : n ≤ 4398046511104) :
    Calls Tryz.prog 147 #[.agg #[.slice A n c, .int .i64 need]] w fun e w' => e = .returned (.bool (isB l need)) ∧ Step nowhere w w' := by
 have hq := eqlH
 obtain ⟨R, hR⟩ : ∃ R, R = isB l need := ⟨_, rfl⟩
 have hRe := hR
 rw [isB, hl] at hRe
 rw [← hR]
 clear hR
 by_cases h0 : n < 1 ∨ 4 < n ∨ need < 1 ∨ (n : Int) < need
 · have hf : R = false := by
     rw [hRe]
     rcases h0 with h | h | h | h
     · by_cases h1 : 1 ≤ need
       · rw [decide_eq_false (show ¬ need ≤ (n : Int) by omega)]; simp
       · rw [decide_eq_false h1]; simp
     · rw [decide_eq_false (show ¬ n ≤ 4 by omega)]; simp
     · rw [decide_eq_false (show ¬ 1 ≤ need by omega)]; simp
     · rw [decide_eq_false (show ¬ need ≤ (n : Int) by omega)]; simp
   have hc : (n : Int) < 1 ∨ (¬ (n : Int) < 1 ∧ 4 < (n : Int)) ∨ (¬ (n : Int) < 1 ∧ ¬ 4 < (n : Int) ∧ need < 1) ∨ (¬ (n : Int) < 1 ∧ ¬ 4 < (n : Int) ∧ ¬ need < 1 ∧ (n : Int) < need) := by omega
   rw [hf]
   clear h0 hf hRe
   rcases hc with h1 | ⟨h1, h2⟩ | ⟨h1, h2, h3⟩ | ⟨h1, h2, h3, h4⟩
   all_goals
    go_enter Tryz.func147, Tryz.ntmps147
    go_wp2_with (first | go_skip | ((with_reducible apply (wpl_box_agg (dst := some 1))); exact rfl; intro zk wzk _ _ _) | ((with_reducible apply (wpl_guard (op := .load _ _))); exact rfl) | ((with_reducible apply (wpl_guard (op := .fieldAddr _ _ _))); exact rfl) | ((with_reducible apply wpl_loadcellN); exact rfl; infer_instance; exact rfl))
    go_ret
    exact ⟨rfl, stepN⟩
 · have h1 : ¬ (n : Int) < 1 := by omega
   have h2 : ¬ 4 < (n : Int) := by omega
   have h3 : ¬ need < 1 := by omega
   have h4 : ¬ (n : Int) < need := by omega
   have hf : R = allB l n := by rw [hRe, decide_eq_true (show n ≤ 4 by omega), decide_eq_true (show 1 ≤ need by omega), decide_eq_true (show need ≤ (n : Int) by omega)]; simp
   have HRE := Lib.hid hf
   clear h0 hf hRe
   go_enter Tryz.func147, Tryz.ntmps147
   go_wp2_with (first | ((with_reducible apply (wpl_box_agg (dst := some 1))); exact rfl; intro zk wzk _ _ _) | ((with_reducible apply (wpl_guard (op := .load _ _))); exact rfl) | ((with_reducible apply (wpl_guard (op := .fieldAddr _ _ _))); exact rfl) | ((with_reducible apply wpl_loadcellN); exact rfl; infer_instance; exact rfl))
   go_loopw [3] (fun kv wr => ∃ k : Nat, k ≤ n ∧ kv = .int .i64 (k : Int) ∧ Hid (allB l k = true) ∧ Step nowhere w wr ∧ HB wr zk 91 #[.slice A n c, .int .i64 need]) (fun kv _ => n - (intOf kv).toNat)
   case atStart => exact ⟨0, Nat.zero_le _, rfl, Lib.hid rfl, stepN, inferInstance⟩
   case round =>
    obtain ⟨k, hk, rfl, HA, _, _⟩ := hrel
    by_cases hlt : k < n
    · have hltI : (k : Int) < n := by omega
      have hkl : k < l.length := by omega
      go_wp2_with (first | ((with_reducible apply wpl_loadcellN); exact rfl; infer_instance; exact rfl))
      go_loopw [4] (fun jv wt => ∃ j : Nat, j ≤ k ∧ jv = .int .i64 (j : Int) ∧ Hid (freshB l k j = true) ∧ Step nowhere w wt ∧ HB wt zk 91 #[.slice A n c, .int .i64 need]) (fun jv _ => k - (intOf jv).toNat)
      case atStart => exact ⟨0, Nat.zero_le _, rfl, Lib.hid rfl, stepN, inferInstance⟩
      case round =>
       obtain ⟨j, hj, rfl, HJ, _, _⟩ := hrel
       by_cases hjk : j < k
       · have hjI : (j : Int) < k := by omega
         have hjn : j < n := by omega
         have hjl : j < l.length := by omega
         by_cases he : hget l k = hget l j
         · have hd : decide (hget l k = hget l j) = true := decide_eq_true he
           have HF : Hid (allB l n = false) := Lib.hid (allB_false l k (by
            rcases hb : freshB l k k with _ | _
            · rfl
            · exact absurd he ((freshB_iff l k k).1 hb j hjk)) n hlt)
           clear he
           go_wp2_with fail
           refine wp_region_N (nowhere) (by kernel_rfl) (fun wd _ _ => ?_)
           refine' tk 0 _ rfl (by kernel_rfl) (by kernel_rfl) (by kernel_rfl) (fun _ _ _ h => h) (yo (by rfl) fun w' _ => ?_) inferInstance ?_
           rotate_left
           · (go_simp; try with_reducible rfl)
           try simp only [Act.put, sA, sB, sC]
           refine' tk 1 _ rfl (by kernel_rfl) (by kernel_rfl) (by kernel_rfl) (fun _ _ _ h => h) (yo (by rfl) fun w' _ => ?_) inferInstance ?_
           rotate_left
           · ((apply ev_loadcellN); exact rfl; infer_instance; infer_instance; exact rfl)
           try simp only [Act.put, sA, sB, sC]
           refine' tk 2 _ rfl (by kernel_rfl) (by kernel_rfl) (by kernel_rfl) (fun _ _ _ h => h) (yo (by rfl) fun w' _ => ?_) inferInstance ?_
           rotate_left
           · (go_simp; try with_reducible rfl)
           try simp only [Act.put, sA, sB, sC]
           refine' tk 3 _ rfl (by kernel_rfl) (by kernel_rfl) (by kernel_rfl) (fun _ _ _ h => h) (yo (by rfl) fun w' _ => ?_) inferInstance ?_
           rotate_left
           · ((apply ev_indexH'); exact rfl; exact rfl; infer_instance; infer_instance; (first | (with_reducible assumption) | omega); (first | (with_reducible assumption) | omega); (first | (with_reducible assumption) | omega))
           try simp only [Act.put, sA, sB, sC]
           refine' tk 4 _ rfl (by kernel_rfl) (by kernel_rfl) (by kernel_rfl) (fun _ _ _ h => h) (yo (by rfl) fun w' _ => ?_) inferInstance ?_
           rotate_left
           · ((apply (ev_loadhash (t := 23))); exact rfl; infer_instance; infer_instance; (first | (with_reducible assumption) | omega))
           try simp only [Act.put, sA, sB, sC]
           refine' tk 5 _ rfl (by kernel_rfl) (by kernel_rfl) (by kernel_rfl) (fun _ _ _ h => h) (yo (by rfl) fun w' _ => ?_) inferInstance ?_
           rotate_left
           · (go_simp; try with_reducible rfl)
           try simp only [Act.put, sA, sB, sC]
           refine' tk 6 _ rfl (by kernel_rfl) (by kernel_rfl) (by kernel_rfl) (fun _ _ _ h => h) (yo (by rfl) fun w' _ => ?_) inferInstance ?_
           rotate_left
           · ((apply ev_loadcellN); exact rfl; infer_instance; infer_instance; exact rfl)
           try simp only [Act.put, sA, sB, sC]
           refine' tk 7 _ rfl (by kernel_rfl) (by kernel_rfl) (by kernel_rfl) (fun _ _ _ h => h) (yo (by rfl) fun w' _ => ?_) inferInstance ?_
           rotate_left
           · (go_simp; try with_reducible rfl)
           try simp only [Act.put, sA, sB, sC]
           refine' tk 8 _ rfl (by kernel_rfl) (by kernel_rfl) (by kernel_rfl) (fun _ _ _ h => h) (yo (by rfl) fun w' _ => ?_) inferInstance ?_
           rotate_left
           · ((apply ev_indexH'); exact rfl; exact rfl; infer_instance; infer_instance; (first | (with_reducible assumption) | omega); (first | (with_reducible assumption) | omega); (first | (with_reducible assumption) | omega))
           try simp only [Act.put, sA, sB, sC]
           refine' tk 9 _ rfl (by kernel_rfl) (by kernel_rfl) (by kernel_rfl) (fun _ _ _ h => h) (yo (by rfl) fun w' _ => ?_) inferInstance ?_
           rotate_left
           · ((apply (ev_loadhash (t := 23))); exact rfl; infer_instance; infer_instance; (first | (with_reducible assumption) | omega))
           try simp only [Act.put, sA, sB, sC]
           refine' tk 10 _ rfl (by kernel_rfl) (by kernel_rfl) (by kernel_rfl) (fun _ _ _ h => h) (yo (by rfl) fun w' _ => ?_) inferInstance ?_
           rotate_left
           · (go_simp; try with_reducible rfl)
           try simp only [Act.put, sA, sB, sC]
           refine wpAnyH_done (by kernel_rfl) ?_ _
           go_wp2_with fail
           go_ret
           refine ⟨?_, stepN⟩
           rw [HRE.out, HF.out]
           rfl
         · have hd : decide (hget l k = hget l j) = false := decide_eq_false he
           have HJ2 : Hid (freshB l k (j + 1) = true) := Lib.hid (by rw [freshB, HJ.out, hd]; rfl)
           clear he
           go_wp2_with fail
           refine wp_region_N (nowhere) (by kernel_rfl) (fun wd _ _ => ?_)
           refine' tk 0 _ rfl (by kernel_rfl) (by kernel_rfl) (by kernel_rfl) (fun _ _ _ h => h) (yo (by rfl) fun w' _ => ?_) inferInstance ?_
           rotate_left
           · (go_simp; try with_reducible rfl)
           try simp only [Act.put, sA, sB, sC]
           refine' tk 1 _ rfl (by kernel_rfl) (by kernel_rfl) (by kernel_rfl) (fun _ _ _ h => h) (yo (by rfl) fun w' _ => ?_) inferInstance ?_
           rotate_left
           · ((apply ev_loadcellN); exact rfl; infer_instance; infer_instance; exact rfl)
           try simp only [Act.put, sA, sB, sC]
           refine' tk 2 _ rfl (by kernel_rfl) (by kernel_rfl) (by kernel_rfl) (fun _ _ _ h => h) (yo (by rfl) fun w' _ => ?_) inferInstance ?_
           rotate_left
           · (go_simp; try with_reducible rfl)
           try simp only [Act.put, sA, sB, sC]
           refine' tk 3 _ rfl (by kernel_rfl) (by kernel_rfl) (by kernel_rfl) (fun _ _ _ h => h) (yo (by rfl) fun w' _ => ?_) inferInstance ?_
           rotate_left
           · ((apply ev_indexH'); exact rfl; exact rfl; infer_instance; infer_instance; (first | (with_reducible assumption) | omega); (first | (with_reducible assumption) | omega); (first | (with_reducible assumption) | omega))
           try simp only [Act.put, sA, sB, sC]
           refine' tk 4 _ rfl (by kernel_rfl) (by kernel_rfl) (by kernel_rfl) (fun _ _ _ h => h) (yo (by rfl) fun w' _ => ?_) inferInstance ?_
           rotate_left
           · ((apply (ev_loadhash (t := 23))); exact rfl; infer_instance; infer_instance; (first | (with_reducible assumption) | omega))
           try simp only [Act.put, sA, sB, sC]
           refine' tk 5 _ rfl (by kernel_rfl) (by kernel_rfl) (by kernel_rfl) (fun _ _ _ h => h) (yo (by rfl) fun w' _ => ?_) inferInstance ?_
           rotate_left
           · (go_simp; try with_reducible rfl)
           try simp only [Act.put, sA, sB, sC]
           refine' tk 6 _ rfl (by kernel_rfl) (by kernel_rfl) (by kernel_rfl) (fun _ _ _ h => h) (yo (by rfl) fun w' _ => ?_) inferInstance ?_
           rotate_left
           · ((apply ev_loadcellN); exact rfl; infer_instance; infer_instance; exact rfl)
           try simp only [Act.put, sA, sB, sC]
           refine' tk 7 _ rfl (by kernel_rfl) (by kernel_rfl) (by kernel_rfl) (fun _ _ _ h => h) (yo (by rfl) fun w' _ => ?_) inferInstance ?_
           rotate_left
           · (go_simp; try with_reducible rfl)
           try simp only [Act.put, sA, sB, sC]
           refine' tk 8 _ rfl (by kernel_rfl) (by kernel_rfl) (by kernel_rfl) (fun _ _ _ h => h) (yo (by rfl) fun w' _ => ?_) inferInstance ?_
           rotate_left
           · ((apply ev_indexH'); exact rfl; exact rfl; infer_instance; infer_instance; (first | (with_reducible assumption) | omega); (first | (with_reducible assumption) | omega); (first | (with_reducible assumption) | omega))
           try simp only [Act.put, sA, sB, sC]
           refine' tk 9 _ rfl (by kernel_rfl) (by kernel_rfl) (by kernel_rfl) (fun _ _ _ h => h) (yo (by rfl) fun w' _ => ?_) inferInstance ?_
           rotate_left
           · ((apply (ev_loadhash (t := 23))); exact rfl; infer_instance; infer_instance; (first | (with_reducible assumption) | omega))
           try simp only [Act.put, sA, sB, sC]
           refine' tk 10 _ rfl (by kernel_rfl) (by kernel_rfl) (by kernel_rfl) (fun _ _ _ h => h) (yo (by rfl) fun w' _ => ?_) inferInstance ?_
           rotate_left
           · (go_simp; try with_reducible rfl)
           try simp only [Act.put, sA, sB, sC]
           refine wpAnyH_done (by kernel_rfl) ?_ _
           go_wp2_with fail
           exact ⟨⟨j + 1, by omega, by go_num, HJ2, stepN, inferInstance⟩, by simp [intOf]; omega⟩
       · have hjI : ¬ (j : Int) < k := by omega
         have hjk2 : j = k := by omega
         have HA2 : Hid (allB l (k + 1) = true) := Lib.hid (by
          have h9 := HJ.out
          rw [hjk2] at h9
          rw [allB, HA.out, h9]
          rfl)
         clear hjk2
         go_wp2_with fail
         exact ⟨⟨k + 1, by omega, by go_num, HA2, stepN, inferInstance⟩, by simp [intOf]; omega⟩
    · have hltI : ¬ (k : Int) < n := by omega
      have hkn : k = n := by omega
      have HKN := Lib.hid hkn
      clear hkn
      go_wp2_with (first | ((with_reducible apply wpl_loadcellN); exact rfl; infer_instance; exact rfl))
      go_ret
      refine ⟨?_, stepN⟩
      rw [HRE.out, ← HKN.out, HA.out]
      rfl
end Go.Proofs.YtgjnjhhhbkidbaaGreat
end
section

end
