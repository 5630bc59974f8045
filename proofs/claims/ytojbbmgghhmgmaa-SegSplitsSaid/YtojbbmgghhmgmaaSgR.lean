/- Rows of frames compared; the reference's Split. -/
import Derived.Test.YtojbbmgghhmgmaaSgP
open Go Go.RowKit
namespace Go.Proofs.Ytojbbmgghhmgmaa
set_option maxRecDepth 100000 in
set_option maxHeartbeats 1600000 in
theorem sameF_calls {A B : Option Addr} {n c c' : Nat} (l l' : List FR) {w : World} [h : HR w A (cellsOf l)] [h' : HR w B (cellsOf l')] [hf : HFs w l] [hf' : HFs w l'] (hn : l.length = n) (hn' : l'.length = n) (hd : l.map (·.d) = l'.map (·.d)) {id : Int} (hi : FIds id l) (hi' : FIds id l') (hmax : n ≤ 1000000) :
    Calls Try.prog 14 #[.slice A n c, .slice B n c'] w fun e w' => e = .returned (.bool true) ∧ Step nowhere w w' := by
  have b0 : ((n : Int) != n) = false := bneF rfl
  go_enter Try.func14, Try.ntmps14
  go_wp2_with fail
  go_loopw [5] (fun iv wr => ∃ k : Nat, k ≤ n ∧ iv = .int .i64 (k : Int) ∧ Step nowhere w wr) (fun iv _ => n - (intOf iv).toNat)
  case atStart => exact ⟨0, Nat.zero_le _, rfl, stepN⟩
  case round =>
    obtain ⟨k, hk, rfl, _⟩ := hrel
    by_cases hlt : k < n
    · have hltI : (k : Int) < n := by omega
      have k1 : k < l.length := by omega
      have k2 : k < l'.length := by omega
      have hdk : (gt l' k).d = (gt l k).d := by rw [gt_d l k _ rfl k1, gt_d l' k _ rfl k2, hd]
      have g1 := hf.out _ (gt_mem l k k1)
      have g2 := hf'.out _ (gt_mem l' k k2)
      rw [hdk] at g2
      have hR1 : HR w (gt l k).A (bs (gt l k).d) := ⟨g1.1⟩
      have hR2 : HR w (gt l' k).A (bs (gt l k).d) := ⟨g2.1⟩
      have hl1 := g1.2.1
      have hl2 := g2.2.1
      have F1 := Lib.hid (show ((gt l k).id != (gt l' k).id) = false from bneF (by rw [hi.at k1, hi'.at k2]))
      have F2 := Lib.hid (show ((strL (gt l k).d).toList == (strL (gt l k).d).toList) = true by simp)
      have F3 := Lib.hid (show ((strL (gt l k).d).toList != (strL (gt l k).d).toList) = false by simp)
      clear g1 g2 hdk
      go_wp2_with fail
      refine wp_region_N (nowhere) (by kernel_rfl) (fun wd _ _ => ?_)
      refine' takeH (i := 0) (v := _) rfl (by kernel_rfl) (by kernel_rfl) (by kernel_rfl) (fun _ _ _ h => h) (yields_of (by rfl) (fun w' _ => ?_)) inferInstance ?_
      rotate_left
      · (go_simp; try with_reducible rfl)
      try simp only [Act.put, List.setIfInBounds_toArray]; try simp only [List.set_cons_succ, List.set_cons_zero]
      refine' takeH (i := 1) (v := _) rfl (by kernel_rfl) (by kernel_rfl) (by kernel_rfl) (fun _ _ _ h => h) (yields_of (by rfl) (fun w' _ => ?_)) inferInstance ?_
      rotate_left
      · (go_simp; try with_reducible rfl)
      try simp only [Act.put, List.setIfInBounds_toArray]; try simp only [List.set_cons_succ, List.set_cons_zero]
      refine' takeH (i := 2) (v := _) rfl (by kernel_rfl) (by kernel_rfl) (by kernel_rfl) (fun _ _ _ h => h) (yields_of (by rfl) (fun w' _ => ?_)) inferInstance ?_
      rotate_left
      · (first | ((with_reducible apply ev_indexB0); (exact rfl); (exact inferInstance); (exact inferInstance); (first | (with_reducible assumption) | omega); (first | (with_reducible assumption) | omega)) | ((with_reducible apply ev_indexB); (exact rfl); (exact rfl); (exact inferInstance); (exact inferInstance); (first | (with_reducible assumption) | omega); (first | (with_reducible assumption) | omega)) | ((with_reducible apply ev_indexH'); (exact rfl); (exact rfl); (exact inferInstance); (exact inferInstance); (first | (with_reducible assumption) | omega); (first | (with_reducible assumption) | omega); (first | (with_reducible assumption) | omega)) | ((with_reducible apply ev_indexH); (exact rfl); (exact rfl); (exact inferInstance); (exact inferInstance); (first | (with_reducible assumption) | omega); (first | (with_reducible assumption) | omega)) | ((with_reducible apply (ev_indexE (α := FR) (t := 23))); (exact rfl); (exact rfl); (exact inferInstance); (exact inferInstance); (first | (with_reducible assumption) | omega | (focus (simp; done)) | (focus (simp; omega; done)) | decide); (exact rfl); (decide); (first | (with_reducible assumption) | omega | (focus (simp; done)) | (focus (simp; omega; done)) | decide)) | ((with_reducible apply (ev_indexE0 (α := FR) (t := 23))); (exact rfl); (exact inferInstance); (exact inferInstance); (first | (with_reducible assumption) | omega | (focus (simp; done)) | (focus (simp; omega; done)) | decide); (exact rfl); (decide); (first | (with_reducible assumption) | omega | (focus (simp; done)) | (focus (simp; omega; done)) | decide)) | (go_simp; try with_reducible rfl))
      try simp only [Act.put, List.setIfInBounds_toArray]; try simp only [List.set_cons_succ, List.set_cons_zero]
      refine' takeH (i := 3) (v := _) rfl (by kernel_rfl) (by kernel_rfl) (by kernel_rfl) (fun _ _ _ h => h) (yields_of (by rfl) (fun w' _ => ?_)) inferInstance ?_
      rotate_left
      · (first | ((with_reducible apply (ev_fieldE (t := 40))); (exact Try.underlying40); (exact rfl); (kernel_rfl); (exact rfl); (exact inferInstance); (exact cells_pos (by decide) (by omega))) | (go_simp; try with_reducible rfl))
      try simp only [Act.put, List.setIfInBounds_toArray]; try simp only [List.set_cons_succ, List.set_cons_zero]
      refine' takeH (i := 4) (v := _) rfl (by kernel_rfl) (by kernel_rfl) (by kernel_rfl) (fun _ _ _ h => h) (yields_of (by rfl) (fun w' _ => ?_)) inferInstance ?_
      rotate_left
      · (first | ((with_reducible apply (ev_loadB (t := 5))); (exact rfl); (exact inferInstance); (exact inferInstance); (first | (with_reducible assumption) | omega)) | ((with_reducible apply ev_loadrow); (exact rfl); (exact inferInstance); (exact inferInstance); (first | (with_reducible assumption) | (with_reducible exact H32.size _) | (with_reducible exact enc_sz _ rfl) | kernel_rfl)) | ((with_reducible apply (ev_loadhash (t := 70))); (exact rfl); (exact inferInstance); (exact inferInstance); (first | (with_reducible assumption) | omega)) | ((with_reducible apply ev_loadcellN); (exact rfl); (exact inferInstance); (exact inferInstance); (first | (exact rfl) | (exact tg_hw _) | (exact tg_ctr _) | (exact tg_ecu _) | (exact srch_who) | (exact srch_fd))) | ((with_reducible apply (ev_loadE (α := FR) (t := 40))); (exact inferInstance); (exact rfl); (exact inferInstance); (exact rfl); (decide); (first | (with_reducible assumption) | omega | (focus (simp; done)) | (focus (simp; omega; done)) | decide)) | ((with_reducible apply (ev_loadF (α := FR))); (exact inferInstance); (exact rfl); (exact inferInstance); (exact rfl); (first | (with_reducible assumption) | omega | (focus (simp; done)) | (focus (simp; omega; done)) | decide); (first | (exact rfl) | (exact tg_hw _) | (exact tg_ctr _) | (exact tg_ecu _) | (exact srch_who) | (exact srch_fd))) | ((with_reducible apply (ev_loadint (t := 3))); (exact rfl); (exact inferInstance); (exact inferInstance); (first | (with_reducible assumption) | omega)) | ((with_reducible apply (ev_loadbyte (t := 5))); (exact rfl); (exact inferInstance); (exact inferInstance); (first | (with_reducible assumption) | omega)) | (go_simp; try with_reducible rfl))
      try simp only [Act.put, List.setIfInBounds_toArray]; try simp only [List.set_cons_succ, List.set_cons_zero]
      refine' takeH (i := 5) (v := _) rfl (by kernel_rfl) (by kernel_rfl) (by kernel_rfl) (fun _ _ _ h => h) (yields_of (by rfl) (fun w' _ => ?_)) inferInstance ?_
      rotate_left
      · (go_simp; try with_reducible rfl)
      try simp only [Act.put, List.setIfInBounds_toArray]; try simp only [List.set_cons_succ, List.set_cons_zero]
      refine' takeH (i := 6) (v := _) rfl (by kernel_rfl) (by kernel_rfl) (by kernel_rfl) (fun _ _ _ h => h) (yields_of (by rfl) (fun w' _ => ?_)) inferInstance ?_
      rotate_left
      · (go_simp; try with_reducible rfl)
      try simp only [Act.put, List.setIfInBounds_toArray]; try simp only [List.set_cons_succ, List.set_cons_zero]
      refine' takeH (i := 7) (v := _) rfl (by kernel_rfl) (by kernel_rfl) (by kernel_rfl) (fun _ _ _ h => h) (yields_of (by rfl) (fun w' _ => ?_)) inferInstance ?_
      rotate_left
      · (first | ((with_reducible apply ev_indexB0); (exact rfl); (exact inferInstance); (exact inferInstance); (first | (with_reducible assumption) | omega); (first | (with_reducible assumption) | omega)) | ((with_reducible apply ev_indexB); (exact rfl); (exact rfl); (exact inferInstance); (exact inferInstance); (first | (with_reducible assumption) | omega); (first | (with_reducible assumption) | omega)) | ((with_reducible apply ev_indexH'); (exact rfl); (exact rfl); (exact inferInstance); (exact inferInstance); (first | (with_reducible assumption) | omega); (first | (with_reducible assumption) | omega); (first | (with_reducible assumption) | omega)) | ((with_reducible apply ev_indexH); (exact rfl); (exact rfl); (exact inferInstance); (exact inferInstance); (first | (with_reducible assumption) | omega); (first | (with_reducible assumption) | omega)) | ((with_reducible apply (ev_indexE (α := FR) (t := 23))); (exact rfl); (exact rfl); (exact inferInstance); (exact inferInstance); (first | (with_reducible assumption) | omega | (focus (simp; done)) | (focus (simp; omega; done)) | decide); (exact rfl); (decide); (first | (with_reducible assumption) | omega | (focus (simp; done)) | (focus (simp; omega; done)) | decide)) | ((with_reducible apply (ev_indexE0 (α := FR) (t := 23))); (exact rfl); (exact inferInstance); (exact inferInstance); (first | (with_reducible assumption) | omega | (focus (simp; done)) | (focus (simp; omega; done)) | decide); (exact rfl); (decide); (first | (with_reducible assumption) | omega | (focus (simp; done)) | (focus (simp; omega; done)) | decide)) | (go_simp; try with_reducible rfl))
      try simp only [Act.put, List.setIfInBounds_toArray]; try simp only [List.set_cons_succ, List.set_cons_zero]
      refine' takeH (i := 8) (v := _) rfl (by kernel_rfl) (by kernel_rfl) (by kernel_rfl) (fun _ _ _ h => h) (yields_of (by rfl) (fun w' _ => ?_)) inferInstance ?_
      rotate_left
      · (first | ((with_reducible apply (ev_fieldE (t := 40))); (exact Try.underlying40); (exact rfl); (kernel_rfl); (exact rfl); (exact inferInstance); (exact cells_pos (by decide) (by omega))) | (go_simp; try with_reducible rfl))
      try simp only [Act.put, List.setIfInBounds_toArray]; try simp only [List.set_cons_succ, List.set_cons_zero]
      refine' takeH (i := 9) (v := _) rfl (by kernel_rfl) (by kernel_rfl) (by kernel_rfl) (fun _ _ _ h => h) (yields_of (by rfl) (fun w' _ => ?_)) inferInstance ?_
      rotate_left
      · (first | ((with_reducible apply (ev_loadB (t := 5))); (exact rfl); (exact inferInstance); (exact inferInstance); (first | (with_reducible assumption) | omega)) | ((with_reducible apply ev_loadrow); (exact rfl); (exact inferInstance); (exact inferInstance); (first | (with_reducible assumption) | (with_reducible exact H32.size _) | (with_reducible exact enc_sz _ rfl) | kernel_rfl)) | ((with_reducible apply (ev_loadhash (t := 70))); (exact rfl); (exact inferInstance); (exact inferInstance); (first | (with_reducible assumption) | omega)) | ((with_reducible apply ev_loadcellN); (exact rfl); (exact inferInstance); (exact inferInstance); (first | (exact rfl) | (exact tg_hw _) | (exact tg_ctr _) | (exact tg_ecu _) | (exact srch_who) | (exact srch_fd))) | ((with_reducible apply (ev_loadE (α := FR) (t := 40))); (exact inferInstance); (exact rfl); (exact inferInstance); (exact rfl); (decide); (first | (with_reducible assumption) | omega | (focus (simp; done)) | (focus (simp; omega; done)) | decide)) | ((with_reducible apply (ev_loadF (α := FR))); (exact inferInstance); (exact rfl); (exact inferInstance); (exact rfl); (first | (with_reducible assumption) | omega | (focus (simp; done)) | (focus (simp; omega; done)) | decide); (first | (exact rfl) | (exact tg_hw _) | (exact tg_ctr _) | (exact tg_ecu _) | (exact srch_who) | (exact srch_fd))) | ((with_reducible apply (ev_loadint (t := 3))); (exact rfl); (exact inferInstance); (exact inferInstance); (first | (with_reducible assumption) | omega)) | ((with_reducible apply (ev_loadbyte (t := 5))); (exact rfl); (exact inferInstance); (exact inferInstance); (first | (with_reducible assumption) | omega)) | (go_simp; try with_reducible rfl))
      try simp only [Act.put, List.setIfInBounds_toArray]; try simp only [List.set_cons_succ, List.set_cons_zero]
      refine' takeH (i := 10) (v := _) rfl (by kernel_rfl) (by kernel_rfl) (by kernel_rfl) (fun _ _ _ h => h) (yields_of (by rfl) (fun w' _ => ?_)) inferInstance ?_
      rotate_left
      · (go_simp; try with_reducible rfl)
      try simp only [Act.put, List.setIfInBounds_toArray]; try simp only [List.set_cons_succ, List.set_cons_zero]
      try simp only [F1.out, F2.out, F3.out]
      refine' takeH (i := 11) (v := _) rfl (by kernel_rfl) (by kernel_rfl) (by kernel_rfl) (fun _ _ _ h => h) (yields_of (by rfl) (fun w' _ => ?_)) inferInstance ?_
      rotate_left
      · (go_simp; try with_reducible rfl)
      try simp only [Act.put, List.setIfInBounds_toArray]; try simp only [List.set_cons_succ, List.set_cons_zero]
      refine' takeH (i := 12) (v := _) rfl (by kernel_rfl) (by kernel_rfl) (by kernel_rfl) (fun _ _ _ h => h) (yields_of (by rfl) (fun w' _ => ?_)) inferInstance ?_
      rotate_left
      · (go_simp; try with_reducible rfl)
      try simp only [Act.put, List.setIfInBounds_toArray]; try simp only [List.set_cons_succ, List.set_cons_zero]
      refine' takeH (i := 13) (v := _) rfl (by kernel_rfl) (by kernel_rfl) (by kernel_rfl) (fun _ _ _ h => h) (yields_of (by rfl) (fun w' _ => ?_)) inferInstance ?_
      rotate_left
      · (go_simp; try with_reducible rfl)
      try simp only [Act.put, List.setIfInBounds_toArray]; try simp only [List.set_cons_succ, List.set_cons_zero]
      refine' takeH (i := 14) (v := _) rfl (by kernel_rfl) (by kernel_rfl) (by kernel_rfl) (fun _ _ _ h => h) (yields_of (by rfl) (fun w' _ => ?_)) inferInstance ?_
      rotate_left
      · (first | ((with_reducible apply ev_indexB0); (exact rfl); (exact inferInstance); (exact inferInstance); (first | (with_reducible assumption) | omega); (first | (with_reducible assumption) | omega)) | ((with_reducible apply ev_indexB); (exact rfl); (exact rfl); (exact inferInstance); (exact inferInstance); (first | (with_reducible assumption) | omega); (first | (with_reducible assumption) | omega)) | ((with_reducible apply ev_indexH'); (exact rfl); (exact rfl); (exact inferInstance); (exact inferInstance); (first | (with_reducible assumption) | omega); (first | (with_reducible assumption) | omega); (first | (with_reducible assumption) | omega)) | ((with_reducible apply ev_indexH); (exact rfl); (exact rfl); (exact inferInstance); (exact inferInstance); (first | (with_reducible assumption) | omega); (first | (with_reducible assumption) | omega)) | ((with_reducible apply (ev_indexE (α := FR) (t := 23))); (exact rfl); (exact rfl); (exact inferInstance); (exact inferInstance); (first | (with_reducible assumption) | omega | (focus (simp; done)) | (focus (simp; omega; done)) | decide); (exact rfl); (decide); (first | (with_reducible assumption) | omega | (focus (simp; done)) | (focus (simp; omega; done)) | decide)) | ((with_reducible apply (ev_indexE0 (α := FR) (t := 23))); (exact rfl); (exact inferInstance); (exact inferInstance); (first | (with_reducible assumption) | omega | (focus (simp; done)) | (focus (simp; omega; done)) | decide); (exact rfl); (decide); (first | (with_reducible assumption) | omega | (focus (simp; done)) | (focus (simp; omega; done)) | decide)) | (go_simp; try with_reducible rfl))
      try simp only [Act.put, List.setIfInBounds_toArray]; try simp only [List.set_cons_succ, List.set_cons_zero]
      refine' takeH (i := 15) (v := _) rfl (by kernel_rfl) (by kernel_rfl) (by kernel_rfl) (fun _ _ _ h => h) (yields_of (by rfl) (fun w' _ => ?_)) inferInstance ?_
      rotate_left
      · (first | ((with_reducible apply (ev_fieldE (t := 40))); (exact Try.underlying40); (exact rfl); (kernel_rfl); (exact rfl); (exact inferInstance); (exact cells_pos (by decide) (by omega))) | (go_simp; try with_reducible rfl))
      try simp only [Act.put, List.setIfInBounds_toArray]; try simp only [List.set_cons_succ, List.set_cons_zero]
      refine' takeH (i := 16) (v := _) rfl (by kernel_rfl) (by kernel_rfl) (by kernel_rfl) (fun _ _ _ h => h) (yields_of (by rfl) (fun w' _ => ?_)) inferInstance ?_
      rotate_left
      · (first | ((with_reducible apply (ev_loadB (t := 5))); (exact rfl); (exact inferInstance); (exact inferInstance); (first | (with_reducible assumption) | omega)) | ((with_reducible apply ev_loadrow); (exact rfl); (exact inferInstance); (exact inferInstance); (first | (with_reducible assumption) | (with_reducible exact H32.size _) | (with_reducible exact enc_sz _ rfl) | kernel_rfl)) | ((with_reducible apply (ev_loadhash (t := 70))); (exact rfl); (exact inferInstance); (exact inferInstance); (first | (with_reducible assumption) | omega)) | ((with_reducible apply ev_loadcellN); (exact rfl); (exact inferInstance); (exact inferInstance); (first | (exact rfl) | (exact tg_hw _) | (exact tg_ctr _) | (exact tg_ecu _) | (exact srch_who) | (exact srch_fd))) | ((with_reducible apply (ev_loadE (α := FR) (t := 40))); (exact inferInstance); (exact rfl); (exact inferInstance); (exact rfl); (decide); (first | (with_reducible assumption) | omega | (focus (simp; done)) | (focus (simp; omega; done)) | decide)) | ((with_reducible apply (ev_loadF (α := FR))); (exact inferInstance); (exact rfl); (exact inferInstance); (exact rfl); (first | (with_reducible assumption) | omega | (focus (simp; done)) | (focus (simp; omega; done)) | decide); (first | (exact rfl) | (exact tg_hw _) | (exact tg_ctr _) | (exact tg_ecu _) | (exact srch_who) | (exact srch_fd))) | ((with_reducible apply (ev_loadint (t := 3))); (exact rfl); (exact inferInstance); (exact inferInstance); (first | (with_reducible assumption) | omega)) | ((with_reducible apply (ev_loadbyte (t := 5))); (exact rfl); (exact inferInstance); (exact inferInstance); (first | (with_reducible assumption) | omega)) | (go_simp; try with_reducible rfl))
      try simp only [Act.put, List.setIfInBounds_toArray]; try simp only [List.set_cons_succ, List.set_cons_zero]
      refine' takeH (i := 17) (v := _) rfl (by kernel_rfl) (by kernel_rfl) (by kernel_rfl) (fun _ _ _ h => h) (yields_of (by rfl) (fun w' _ => ?_)) inferInstance ?_
      rotate_left
      · (first | ((with_reducible apply ev_conv); (exact rfl); (exact inferInstance); (first | (with_reducible assumption) | (focus (simp; done)) | omega); (exact Try.underlying22); (exact Try.underlying5); (exact Try.underlying9)) | (go_simp; try with_reducible rfl))
      try simp only [Act.put, List.setIfInBounds_toArray]; try simp only [List.set_cons_succ, List.set_cons_zero]
      refine' takeH (i := 18) (v := _) rfl (by kernel_rfl) (by kernel_rfl) (by kernel_rfl) (fun _ _ _ h => h) (yields_of (by rfl) (fun w' _ => ?_)) inferInstance ?_
      rotate_left
      · (go_simp; try with_reducible rfl)
      try simp only [Act.put, List.setIfInBounds_toArray]; try simp only [List.set_cons_succ, List.set_cons_zero]
      refine' takeH (i := 19) (v := _) rfl (by kernel_rfl) (by kernel_rfl) (by kernel_rfl) (fun _ _ _ h => h) (yields_of (by rfl) (fun w' _ => ?_)) inferInstance ?_
      rotate_left
      · (go_simp; try with_reducible rfl)
      try simp only [Act.put, List.setIfInBounds_toArray]; try simp only [List.set_cons_succ, List.set_cons_zero]
      refine' takeH (i := 20) (v := _) rfl (by kernel_rfl) (by kernel_rfl) (by kernel_rfl) (fun _ _ _ h => h) (yields_of (by rfl) (fun w' _ => ?_)) inferInstance ?_
      rotate_left
      · (first | ((with_reducible apply ev_indexB0); (exact rfl); (exact inferInstance); (exact inferInstance); (first | (with_reducible assumption) | omega); (first | (with_reducible assumption) | omega)) | ((with_reducible apply ev_indexB); (exact rfl); (exact rfl); (exact inferInstance); (exact inferInstance); (first | (with_reducible assumption) | omega); (first | (with_reducible assumption) | omega)) | ((with_reducible apply ev_indexH'); (exact rfl); (exact rfl); (exact inferInstance); (exact inferInstance); (first | (with_reducible assumption) | omega); (first | (with_reducible assumption) | omega); (first | (with_reducible assumption) | omega)) | ((with_reducible apply ev_indexH); (exact rfl); (exact rfl); (exact inferInstance); (exact inferInstance); (first | (with_reducible assumption) | omega); (first | (with_reducible assumption) | omega)) | ((with_reducible apply (ev_indexE (α := FR) (t := 23))); (exact rfl); (exact rfl); (exact inferInstance); (exact inferInstance); (first | (with_reducible assumption) | omega | (focus (simp; done)) | (focus (simp; omega; done)) | decide); (exact rfl); (decide); (first | (with_reducible assumption) | omega | (focus (simp; done)) | (focus (simp; omega; done)) | decide)) | ((with_reducible apply (ev_indexE0 (α := FR) (t := 23))); (exact rfl); (exact inferInstance); (exact inferInstance); (first | (with_reducible assumption) | omega | (focus (simp; done)) | (focus (simp; omega; done)) | decide); (exact rfl); (decide); (first | (with_reducible assumption) | omega | (focus (simp; done)) | (focus (simp; omega; done)) | decide)) | (go_simp; try with_reducible rfl))
      try simp only [Act.put, List.setIfInBounds_toArray]; try simp only [List.set_cons_succ, List.set_cons_zero]
      refine' takeH (i := 21) (v := _) rfl (by kernel_rfl) (by kernel_rfl) (by kernel_rfl) (fun _ _ _ h => h) (yields_of (by rfl) (fun w' _ => ?_)) inferInstance ?_
      rotate_left
      · (first | ((with_reducible apply (ev_fieldE (t := 40))); (exact Try.underlying40); (exact rfl); (kernel_rfl); (exact rfl); (exact inferInstance); (exact cells_pos (by decide) (by omega))) | (go_simp; try with_reducible rfl))
      try simp only [Act.put, List.setIfInBounds_toArray]; try simp only [List.set_cons_succ, List.set_cons_zero]
      refine' takeH (i := 22) (v := _) rfl (by kernel_rfl) (by kernel_rfl) (by kernel_rfl) (fun _ _ _ h => h) (yields_of (by rfl) (fun w' _ => ?_)) inferInstance ?_
      rotate_left
      · (first | ((with_reducible apply (ev_loadB (t := 5))); (exact rfl); (exact inferInstance); (exact inferInstance); (first | (with_reducible assumption) | omega)) | ((with_reducible apply ev_loadrow); (exact rfl); (exact inferInstance); (exact inferInstance); (first | (with_reducible assumption) | (with_reducible exact H32.size _) | (with_reducible exact enc_sz _ rfl) | kernel_rfl)) | ((with_reducible apply (ev_loadhash (t := 70))); (exact rfl); (exact inferInstance); (exact inferInstance); (first | (with_reducible assumption) | omega)) | ((with_reducible apply ev_loadcellN); (exact rfl); (exact inferInstance); (exact inferInstance); (first | (exact rfl) | (exact tg_hw _) | (exact tg_ctr _) | (exact tg_ecu _) | (exact srch_who) | (exact srch_fd))) | ((with_reducible apply (ev_loadE (α := FR) (t := 40))); (exact inferInstance); (exact rfl); (exact inferInstance); (exact rfl); (decide); (first | (with_reducible assumption) | omega | (focus (simp; done)) | (focus (simp; omega; done)) | decide)) | ((with_reducible apply (ev_loadF (α := FR))); (exact inferInstance); (exact rfl); (exact inferInstance); (exact rfl); (first | (with_reducible assumption) | omega | (focus (simp; done)) | (focus (simp; omega; done)) | decide); (first | (exact rfl) | (exact tg_hw _) | (exact tg_ctr _) | (exact tg_ecu _) | (exact srch_who) | (exact srch_fd))) | ((with_reducible apply (ev_loadint (t := 3))); (exact rfl); (exact inferInstance); (exact inferInstance); (first | (with_reducible assumption) | omega)) | ((with_reducible apply (ev_loadbyte (t := 5))); (exact rfl); (exact inferInstance); (exact inferInstance); (first | (with_reducible assumption) | omega)) | (go_simp; try with_reducible rfl))
      try simp only [Act.put, List.setIfInBounds_toArray]; try simp only [List.set_cons_succ, List.set_cons_zero]
      refine' takeH (i := 23) (v := _) rfl (by kernel_rfl) (by kernel_rfl) (by kernel_rfl) (fun _ _ _ h => h) (yields_of (by rfl) (fun w' _ => ?_)) inferInstance ?_
      rotate_left
      · (first | ((with_reducible apply ev_conv); (exact rfl); (exact inferInstance); (first | (with_reducible assumption) | (focus (simp; done)) | omega); (exact Try.underlying22); (exact Try.underlying5); (exact Try.underlying9)) | (go_simp; try with_reducible rfl))
      try simp only [Act.put, List.setIfInBounds_toArray]; try simp only [List.set_cons_succ, List.set_cons_zero]
      refine' takeH (i := 24) (v := _) rfl (by kernel_rfl) (by kernel_rfl) (by kernel_rfl) (fun _ _ _ h => h) (yields_of (by rfl) (fun w' _ => ?_)) inferInstance ?_
      rotate_left
      · (go_simp; try with_reducible rfl)
      try simp only [Act.put, List.setIfInBounds_toArray]; try simp only [List.set_cons_succ, List.set_cons_zero]
      try simp only [F1.out, F2.out, F3.out]
      refine' takeH (i := 25) (v := _) rfl (by kernel_rfl) (by kernel_rfl) (by kernel_rfl) (fun _ _ _ h => h) (yields_of (by rfl) (fun w' _ => ?_)) inferInstance ?_
      rotate_left
      · (go_simp; try with_reducible rfl)
      try simp only [Act.put, List.setIfInBounds_toArray]; try simp only [List.set_cons_succ, List.set_cons_zero]
      refine wpAnyH_done (by kernel_rfl) ?_ _
      go_wp2_with fail
      first
        | refine ⟨⟨k + 1, by omega, by simp, stepN⟩, by simp [intOf]; omega⟩
        | refine ⟨⟨k + 1, by omega, by omega, stepN⟩, by simp [intOf]; omega⟩
    · obtain rfl : k = n := by omega
      have hltI : ¬ (k : Int) < k := by omega
      go_wp2_with fail
      go_ret
      exact ⟨rfl, stepN⟩
set_option maxRecDepth 100000 in
set_option maxHeartbeats 800000 in
theorem rsplit1_calls (id : Int) {A : Option Addr} {n c : Nat} {m : List UInt8} {w : World} [h : HR w A (bs m)] (hn : m.length = n) (h0 : 0 ≤ id) (h1 : id ≤ 2047) (hp : 1 ≤ n) (h7 : n ≤ 7) :
    Calls Try.prog 13 #[.int .i64 id, .slice A n c] w (SplitPost id m w) := by
  have b0 : ((n : Int) == 0) = false := beqF (by omega)
  have i0 : ¬ id < 0 := by omega
  have i1 : ¬ (2047 : Int) < id := by omega
  have i2 : ¬ (600 : Int) < n := by omega
  have i3 : (n : Int) ≤ 7 := by omega
  have kb1 := u8_1 (n : Int) (by omega) (by omega)
  have f0 : Fact' (([b8 (n : Int)] : List UInt8).length ≤ maxLen) := ⟨by show 1 ≤ maxLen; unfold maxLen; omega⟩
  go_enter Try.func13, Try.ntmps13
  go_wp2_with (first | go_skip | ((with_reducible apply (stop_dst (dst := some 33))); (try simp only [Act.put, List.setIfInBounds_toArray, List.set_cons_succ, List.set_cons_zero]); ((with_reducible apply (wpl_bslice (dst := some 33))); (exact kb1 _); intro zh wb _ _ _)) | ((with_reducible apply wpl_appendB); (exact rfl); (exact rfl); (exact inferInstance); (exact inferInstance); (exact inferInstance); (exact hn); (first | omega | (simp; omega)); intro A' c' wa s5 ho5 g5 hcap5) | ((with_reducible apply (stop_dst (dst := some 36))); (try simp only [Act.put, List.setIfInBounds_toArray, List.set_cons_succ, List.set_cons_zero]); ((with_reducible apply (wpl_build (dst := some 36))); (exact run_build_frame _ _ _ _))) | ((with_reducible apply (stop_dst (dst := some 37))); (try simp only [Act.put, List.setIfInBounds_toArray, List.set_cons_succ, List.set_cons_zero]); ((with_reducible apply (wpl_bslice (dst := some 37))); (exact run_frames1 _ _ _ _ _); intro zf wb _ _ _)))
  go_ret2
  have hR9 : HR wb A' (bs ([b8 (n : Int)] ++ m)) := inferInstance
  refine ⟨_, _, [⟨id, A', 1 + n, c', [b8 (n : Int)] ++ m⟩], rfl, stepN, HR.blkL (l := cellsOf [(⟨id, A', 1 + n, c', [b8 (n : Int)] ++ m⟩ : FR)]) inferInstance, ⟨?_⟩, ?_, ?_⟩
  · intro f hf
    rw [List.mem_singleton.1 hf]
    exact ⟨hR9.out, by simp; omega, hcap5⟩
  · rw [split_one (by omega), hn]
    rfl
  · intro f hf
    rw [List.mem_singleton.1 hf]
instance OffF.rowOnly (z k : Nat) (l : List FR) [o : OffF (only z) l] : OffF (rowOf (some ⟨z, k, none⟩)) l := ⟨fun f hf hne ad e ⟨ad', e', hk⟩ => by
  injection e' with e'
  subst e'
  exact o.out f hf hne ad e hk.symm⟩
theorem and15 (k : Nat) (h : k < 100000) (w : World) : (binOp .and 3 (.int .i64 (k : Int)) (.int .i64 15)).run Try.prog w = .ok (.int .i64 ((k % 16 : Nat) : Int)) w := by
  have e : bits .and .i64 (k : Int) 15 = ((k % 16 : Nat) : Int) := by
    have h1 : (BitVec.ofInt 64 (k : Int)).toNat = k := by
      rw [BitVec.ofInt_natCast, BitVec.toNat_ofNat]; exact Nat.mod_eq_of_lt (by omega)
    have h2 : (BitVec.ofInt 64 (15 : Int)).toNat = 15 := by decide
    show IntKind.i64.wrap ((BitVec.ofInt 64 (k : Int) &&& BitVec.ofInt 64 (15 : Int)).toNat : Int) = _
    rw [BitVec.toNat_and, h1, h2, show (15 : Nat) = 2 ^ 4 - 1 from rfl, Nat.and_two_pow_sub_one_eq_mod, IntKind.wrap_i64]
    omega
  rw [← e]
  rfl
theorem wpl_and15 {ops : Array Oper} {rest : List Oper} {a : Act} {w : World} {Q : Exit → Act → World → Prop} {dst : Option Tmp} {ty : TypeId} {pos : String} {after : Array Edge} {x : Operand} {v : Int} (k q : Nat) (hx : a.eval x = .int .i64 v) (hv : v = (k : Int)) (hk : k < 100000) (hq : k % 16 = q)
    (h : wpList Try.prog ops Q rest (a.put dst (.int .i64 (q : Int))) w) : wpList Try.prog ops Q (⟨dst, .binOp .and 3 x (.const (.int .i64 15)) 3, ty, pos, after, none⟩ :: rest) a w :=
  wpl_of_run rfl (by
    show ((binOp .and 3 (a.eval x) (.int .i64 15)) >>= fun v => pure (Next.value v)).run Try.prog w = _
    rw [hx, hv, Sem.run_bind, and15 k hk, hq]
    rfl) h
theorem wpl_sl_lhE {P : Program} {ops : Array Oper} {rest : List Oper} {a : Act} {w : World} {Q : Exit → Act → World → Prop} {dst : Option Tmp} {ty : TypeId} {pos : String} {after : Array Edge} {t e : TypeId} {size bytes : Nat} {z : Value} {x y y2 : Operand} {A : Option Addr} {n c : Nat} {v v2 : Int} (k m : Nat) (hx : a.eval x = .slice A n c) (hy : a.eval y = .int .i64 v) (hy2 : a.eval y2 = .int .i64 v2) (hv : v = (k : Int)) (hv2 : v2 = (m : Int)) (E : ElemT P t e size bytes z) (hk : k ≤ m) (hm : m ≤ c)
    (h : wpList P ops Q rest (a.put dst (.slice (cutA A k c size) (m - k) (c - k))) w) : wpList P ops Q (⟨dst, .slice t x (some y) (some y2) none, ty, pos, after, none⟩ :: rest) a w :=
  wpl_sl_lh hx (hy.trans (by rw [hv])) (hy2.trans (by rw [hv2])) E hk hm h
set_option maxRecDepth 100000 in
set_option maxHeartbeats 1600000 in
theorem rsplit2_calls (id : Int) {A : Option Addr} {n c : Nat} {m : List UInt8} {w : World} [h : HR w A (bs m)] (hn : m.length = n) (hc : n ≤ c) (h0 : 0 ≤ id) (h1 : id ≤ 2047) (h8 : 8 ≤ n) (h6 : n ≤ 600) :
    Calls Try.prog 13 #[.int .i64 id, .slice A n c] w (SplitPost id m w) := by
  have b0 : ((n : Int) == 0) = false := beqF (by omega)
  have i0 : ¬ id < 0 := by omega
  have i1 : ¬ (2047 : Int) < id := by omega
  have i2 : ¬ (600 : Int) < n := by omega
  have i3 : ¬ (n : Int) ≤ 7 := by omega
  have f0 : ∀ x y, Fact' (([x, y] : List UInt8).length ≤ maxLen) := fun _ _ => ⟨by show 2 ≤ maxLen; unfold maxLen; omega⟩
  have f1 : ∀ x, Fact' (([x] : List UInt8).length ≤ maxLen) := fun _ => ⟨by show 1 ≤ maxLen; unfold maxLen; omega⟩
  have hl6 : (m.take 6).length = 6 := by simp; omega
  have kb2 : ∀ w, (Instr.buildSlice 22 2 #[(0, .int .u8 (16 + (n : Int) / 256)), (1, .int .u8 ((n : Int) % 256))]).run Try.prog w = .ok (.slice (some ⟨w.heap.size, 0, none⟩) 2 2) (w.alloc (.cells (u8s [b8 (16 + ((n / 256 : Nat) : Int)), b8 (n : Int)]) 5)) := fun w => by
    rw [show (n : Int) / 256 = ((n / 256 : Nat) : Int) by omega, ← b8_mod n]
    exact u8_2 _ _ (by omega) (by omega) (by omega) (by omega) w
  go_enter Try.func13, Try.ntmps13
  go_wp2_with (first | go_skip | ((with_reducible apply (stop_dst (dst := some 47))); (try simp only [Act.put, List.setIfInBounds_toArray, List.set_cons_succ, List.set_cons_zero]); ((with_reducible apply (wpl_bslice (dst := some 47))); (exact kb2 _); intro zh wb _ _ _)) | ((with_reducible apply wpl_appendB); (exact rfl); (exact rfl); (exact inferInstance); (exact inferInstance); (exact HR.takeB (A := A) (xs := m) inferInstance 6); (exact hl6); (first | omega | (simp; omega)); intro A' c' wa s5 ho5 g5 hcap5) | ((with_reducible apply (stop_dst (dst := some 51))); (try simp only [Act.put, List.setIfInBounds_toArray, List.set_cons_succ, List.set_cons_zero]); ((with_reducible apply (wpl_build (dst := some 51))); (exact run_build_frame _ _ _ _))) | ((with_reducible apply (stop_dst (dst := some 52))); (try simp only [Act.put, List.setIfInBounds_toArray, List.set_cons_succ, List.set_cons_zero]); ((with_reducible apply (wpl_bslice (dst := some 52))); (exact run_frames1 _ _ _ _ _); intro zf wb _ _ _)))
  obtain ⟨f0', hf0⟩ : ∃ f0 : FR, f0 = ⟨id, A', 2 + 6, c', frF m⟩ := ⟨_, rfl⟩
  have hR0 : HR wb A' (bs ([b8 (16 + ((n / 256 : Nat) : Int)), b8 (n : Int)] ++ m.take 6)) := inferInstance
  have eF : frF m = [b8 (16 + ((n / 256 : Nat) : Int)), b8 (n : Int)] ++ m.take 6 := by rw [frF, hn]; rfl
  have HF0 : HFs wb [f0'] := ⟨fun f hf => by
    rw [List.mem_singleton.1 hf, hf0]
    refine ⟨?_, ?_, hcap5⟩
    · show Rd wb A' (bs (frF m))
      rw [eF]; exact hR0.out
    · show (frF m).length = 8
      rw [frF_len (by omega)]⟩
  have HO0 : HO wb 40 2 (some ⟨zf, 0, none⟩) 1 1 (cellsOf [f0']) := by
    rw [hf0]
    exact HO.one inferInstance rfl
  have OF0 : OffF (rowOf (some ⟨zf, 0, none⟩)) [f0'] := ⟨fun f hf => by
    rw [List.mem_singleton.1 hf, hf0]
    intro hne ad e ⟨ad', e', hk⟩
    injection e' with e'
    subst e'
    exact (OffR.born wa zf A' (bs ([b8 (16 + ((n / 256 : Nat) : Int)), b8 (n : Int)] ++ m.take 6))).out (by simp [bs]) ad e hk.symm⟩
  have NF0 : NewA w (some ⟨zf, 0, none⟩) := (inferInstance : NewA wa (some ⟨zf, 0, none⟩)).monoS
  have ID0 : FIds id [f0'] := fun f hf => by rw [List.mem_singleton.1 hf, hf0]
  have D0 : [f0'].map (·.d) = frF m :: (List.range 0).map (frN m) := by rw [hf0]; rfl
  go_wp2_with fail
  go_loopw [6, 7, 8] (fun lv kv av wr => ∃ (k : Nat) (FA : Option Addr) (fc : Nat) (l : List FR), 7 * k ≤ n ∧ k ≤ 100 ∧ lv = .slice FA (k + 1) fc ∧ kv = .int .i64 (1 + (k : Int)) ∧ av = .int .i64 (6 + 7 * (k : Int)) ∧ Step nowhere w wr ∧ HO wr 40 2 FA (k + 1) fc (cellsOf l) ∧ NewA w FA ∧ HFs wr l ∧ OffF (rowOf FA) l ∧ Hid (l.map (·.d) = frF m :: (List.range k).map (frN m)) ∧ Hid (FIds id l)) (fun lv _ _ _ => 1000 - lenV lv)
  case atStart => exact ⟨0, _, _, [f0'], by omega, by omega, rfl, rfl, rfl, stepN, HO0, NF0, HF0, OF0, Lib.hid D0, Lib.hid ID0⟩
  case round =>
    obtain ⟨k, FA, fc, l, hk, hk1, rfl, rfl, rfl, _, _, _, _, _, HD, HI⟩ := hrel
    by_cases hlt : 6 + 7 * k < n
    · have hltI : (6 : Int) + 7 * (k : Int) < n := by omega
      obtain ⟨q, hq⟩ : ∃ q, min n (6 + 7 * k + 7) = q := ⟨_, rfl⟩
      have hq1 : 6 + 7 * k ≤ q := by omega
      have hqc : q ≤ c := by omega
      have hqd : q ≤ 6 + 7 * k + 7 := by omega
      have HQ := Lib.hid hq
      have HM := Lib.hid (show min ((n : Nat) : Int) (6 + 7 * (k : Int) + 7) = (q : Int) by omega)
      clear hq
      obtain ⟨q6, hq6⟩ : ∃ q6, (k + 1) % 16 = q6 := ⟨_, rfl⟩
      have hq16 : q6 < 16 := by omega
      have HQ6 := Lib.hid hq6
      clear hq6
      have kb3 : ∀ w, (Instr.buildSlice 22 1 #[(0, .int .u8 (32 + (q6 : Int)))]).run Try.prog w = .ok (.slice (some ⟨w.heap.size, 0, none⟩) 1 1) (w.alloc (.cells (u8s [b8 (32 + (q6 : Int))]) 5)) := u8_1 _ (by omega) (by omega)
      have hRA : HR w (cutA A (6 + 7 * k) c 1) (bs ((m.drop (6 + 7 * k)).take (q - (6 + 7 * k)))) := HR.takeB (HR.cutB h hn hc (6 + 7 * k)) _
      have hlA : ((m.drop (6 + 7 * k)).take (q - (6 + 7 * k))).length = q - (6 + 7 * k) := by
        rw [List.length_take, List.length_drop, hn]
        have := HQ.out
        omega
      have eN : frN m k = [b8 (32 + (q6 : Int))] ++ (m.drop (6 + 7 * k)).take (q - (6 + 7 * k)) := by
        rw [frN_eq, HQ6.out, take_min m (6 + 7 * k) 7 (q - (6 + 7 * k)) (by rw [hn]; have := HQ.out; omega)]
      have nlen : (frN m k).length = 1 + (q - (6 + 7 * k)) := by
        rw [eN, List.length_append, hlA]
        rfl
      go_wp2_with (first | go_skip | ((with_reducible apply (wpl_and15 (k + 1) q6)); (exact rfl); omega; omega; (exact HQ6.out)) | ((with_reducible apply (stop_dst (dst := some 65))); (try simp only [Act.put, List.setIfInBounds_toArray, List.set_cons_succ, List.set_cons_zero]); ((with_reducible apply (wpl_bslice (dst := some 65))); (exact kb3 _); intro zh3 wb _ _ _)) | ((with_reducible apply wpl_mineq); (exact rfl); (exact rfl); (exact HM.out)) | ((with_reducible apply (wpl_sl_lhE (6 + 7 * k) q)); (exact rfl); (exact rfl); (exact rfl); omega; omega; (exact inferInstance); omega; omega) | ((with_reducible apply wpl_appendB); (exact rfl); (exact rfl); (exact inferInstance); (exact inferInstance); (exact inferInstance); (exact hlA); (first | omega | (simp; omega)); intro B b wA sA hoA gA hcapA) | ((with_reducible apply (stop_dst (dst := some 75))); (try simp only [Act.put, List.setIfInBounds_toArray, List.set_cons_succ, List.set_cons_zero]); ((with_reducible apply (wpl_build (dst := some 75))); (exact run_build_frame _ _ _ _))) | ((with_reducible apply (stop_dst (dst := some 76))); (try simp only [Act.put, List.setIfInBounds_toArray, List.set_cons_succ, List.set_cons_zero]); ((with_reducible apply (wpl_bslice (dst := some 76))); (exact run_frames1 _ _ _ _ _); intro zf2 wb _ _ _)) | ((with_reducible apply (wpl_appendF ⟨id, B, 1 + (q - (6 + 7 * k)), b, frN m k⟩)); (exact rfl); (exact rfl); (exact inferInstance); (exact inferInstance); (exact inferInstance); omega; decide; intro A2 c2 wa2 _ ho2 g2 hcap2))
      have nB : NewA wr B := inferInstance
      have hRB : HR wa2 B (bs (frN m k)) := by
        rw [eN]; exact inferInstance
      have hRBb : HR wb B (bs (frN m k)) := by
        rw [eN]; exact inferInstance
      have hO1 : OffR (rowOf FA) B (bs (frN m k)) := inferInstance
      have hO2 : OffR (rowOf A2) B (bs (frN m k)) := OffR.grew g2
      have hF2 : HFs wa2 (l ++ [⟨id, B, 1 + (q - (6 + 7 * k)), b, frN m k⟩]) := HFs.snoc hRB.out nlen hcapA
      have hO3 : OffF (rowOf A2) l := OffF.grew g2
      have hO4 : OffF (rowOf A2) (l ++ [⟨id, B, 1 + (q - (6 + 7 * k)), b, frN m k⟩]) := OffF.snoc hO2.out
      refine ⟨⟨k + 1, A2, c2, _, by omega, by omega, rfl, by congr 1 <;> omega, by congr 1 <;> omega, stepN, ho2, inferInstance, hF2, hO4, Lib.hid ?_, Lib.hid ?_⟩, ?_⟩
      · rw [List.map_append, HD.out, range_snoc]
        rfl
      · intro f hf
        rcases List.mem_append.1 hf with hf | hf
        · exact HI.out f hf
        · rw [List.mem_singleton.1 hf]
      · show 1000 - (k + 1 + 1) < 1000 - (k + 1)
        omega
    · have hltI : ¬ (6 : Int) + 7 * (k : Int) < n := by omega
      go_wp2_with fail
      go_ret2
      have hll : l.length = k + 1 := by
        have := congrArg List.length HD.out
        simpa using this
      refine ⟨FA, fc, l, ?_, stepN, inferInstance, inferInstance, ?_, HI.out⟩
      · rw [hll]
        rfl
      · rw [HD.out, splitS, if_neg (by omega), hn, show cntN n = k by unfold cntN; omega]
theorem rsplit_calls (id : Int) {A : Option Addr} {n c : Nat} {m : List UInt8} {w : World} [h : HR w A (bs m)] (hn : m.length = n) (hc : n ≤ c) (h0 : 0 ≤ id) (h1 : id ≤ 2047) (hp : 1 ≤ n) (h6 : n ≤ 600) :
    Calls Try.prog 13 #[.int .i64 id, .slice A n c] w (SplitPost id m w) := by
  rcases Nat.lt_or_ge 7 n with h7 | h7
  · exact rsplit2_calls id hn hc h0 h1 h7 h6
  · exact rsplit1_calls id hn h0 h1 hp h7
set_option maxRecDepth 100000 in
set_option maxHeartbeats 800000 in
/-- what is refused -/
theorem splitErr_calls (id : Int) {A : Option Addr} {n c : Nat} {w : World} (hw : -9223372036854775808 ≤ id ∧ id ≤ 9223372036854775807) (hmax : n ≤ 900) (h : id < 0 ∨ 2047 < id ∨ n = 0 ∨ 600 < n) : ∃ e : Int,
    Calls Try.prog 12 #[.int .i64 id, .slice A n c] w (fun en w' => en = .returned (.tuple #[.slice none 0 0, .int .i64 e]) ∧ Step nowhere w w') ∧
    ∀ w, Calls Try.prog 13 #[.int .i64 id, .slice A n c] w (fun en w' => en = .returned (.tuple #[.slice none 0 0, .int .i64 e]) ∧ Step nowhere w w') := by
  by_cases c1 : id < 0
  · refine ⟨1, ?_, fun w => ?_⟩
    · go_enter Try.func12, Try.ntmps12
      go_wp2_with fail
      go_ret2
      exact ⟨rfl, stepN⟩
    · go_enter Try.func13, Try.ntmps13
      go_wp2_with fail
      go_ret2
      exact ⟨rfl, stepN⟩
  by_cases c2 : 2047 < id
  · refine ⟨1, ?_, fun w => ?_⟩
    · go_enter Try.func12, Try.ntmps12
      go_wp2_with fail
      go_ret2
      exact ⟨rfl, stepN⟩
    · go_enter Try.func13, Try.ntmps13
      go_wp2_with fail
      go_ret2
      exact ⟨rfl, stepN⟩
  by_cases c3 : n = 0
  · subst c3
    refine ⟨1, ?_, fun w => ?_⟩
    · go_enter Try.func12, Try.ntmps12
      go_wp2_with fail
      go_ret2
      exact ⟨rfl, stepN⟩
    · go_enter Try.func13, Try.ntmps13
      go_wp2_with fail
      go_ret2
      exact ⟨rfl, stepN⟩
  have b0 : ((n : Int) == 0) = false := beqF (by omega)
  have i2 : (600 : Int) < n := by omega
  refine ⟨10, ?_, fun w => ?_⟩
  · go_enter Try.func12, Try.ntmps12
    go_wp2_with fail
    go_ret2
    exact ⟨rfl, stepN⟩
  · go_enter Try.func13, Try.ntmps13
    go_wp2_with fail
    go_ret2
    exact ⟨rfl, stepN⟩
set_option maxRecDepth 100000 in
set_option maxHeartbeats 800000 in
theorem segSplits_calls (id : Int) (hid : -9223372036854775808 ≤ id ∧ id ≤ 9223372036854775807) {A : Option Addr} {n c : Nat} (m : List UInt8) {w : World} [h : HR w A (bs m)] (hn : m.length = n) (hc : n ≤ c) (hmax : n ≤ 9223372036854775807) :
    Calls Try.prog 3 #[.int .i64 id, .slice A n c] w fun e w' => e = .returned (.bool true) ∧ Chg nowhere w w' := by
  by_cases c9 : 900 < n
  · have i1 : (900 : Int) < n := by omega
    go_enter Try.func3, Try.ntmps3
    go_wp2_with fail
    go_ret
    exact ⟨rfl, Chg.refl _ _⟩
  have i1 : ¬ (900 : Int) < n := by omega
  by_cases hbad : id < 0 ∨ 2047 < id ∨ n = 0 ∨ 600 < n
  · obtain ⟨e0, he1, he2⟩ := splitErr_calls (A := A) (c := c) (w := w) id hid (by omega) hbad
    have be : (e0 == e0) = true := beqT rfl
    go_enter Try.func3, Try.ntmps3
    go_wp2_with fail
    refine he1.mono ?_
    rintro e w1 ⟨rfl, _⟩
    go_wp2_with fail
    refine (he2 _).mono ?_
    rintro e w2 ⟨rfl, _⟩
    have hn1 : HR w2 none (cellsOf ([] : List FR)) := ⟨Rd.nil _ _⟩
    have hn2 : HFs w2 [] := ⟨FOk.nil _⟩
    go_wp2_with fail
    refine (sameF_calls [] [] (id := 0) rfl rfl rfl (fun f hf => by cases hf) (fun f hf => by cases hf) (by decide)).mono ?_
    rintro e w3 ⟨rfl, _⟩
    go_wp2_with fail
    refine (sKnown_calls _).mono ?_
    rintro e w4 ⟨rfl, _⟩
    go_wp2_with fail
    go_ret
    exact ⟨rfl, (stepN (w0 := w)).chg⟩
  · go_enter Try.func3, Try.ntmps3
    go_wp2_with fail
    refine (split_calls (m := m) id (A := A) (n := n) (c := c) hn hc (by omega) (by omega) (by omega) (by omega)).mono ?_
    rintro e w1 ⟨FA, fc, l, rfl, _, _, _, hD, hI⟩
    have HD := Lib.hid hD
    have HI := Lib.hid hI
    clear hD hI
    go_wp2_with fail
    refine (rsplit_calls (m := m) id (A := A) (n := n) (c := c) hn hc (by omega) (by omega) (by omega) (by omega)).mono ?_
    rintro e w2 ⟨FB, fd, l', rfl, _, _, _, hD', hI'⟩
    have HD' := Lib.hid hD'
    have HI' := Lib.hid hI'
    have hll : l.length ≤ 1000 := by
      rw [map_len HD.out, split_len, hn]
      unfold cntN
      split <;> omega
    have hle : l'.length = l.length := by rw [map_len HD.out, map_len hD']
    rw [hle]
    clear hD' hI'
    go_wp2_with fail
    refine (sameF_calls l l' rfl hle (HD.out.trans HD'.out.symm) HI.out HI'.out (by omega)).mono ?_
    rintro e w3 ⟨rfl, _⟩
    go_wp2_with fail
    refine (sKnown_calls _).mono ?_
    rintro e w4 ⟨rfl, _⟩
    go_wp2_with fail
    go_ret
    exact ⟨rfl, (stepN (w0 := w)).chg⟩
end Go.Proofs.Ytojbbmgghhmgmaa
