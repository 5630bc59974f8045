/- QmD -/
import Derived.Test.YthcleccofccbdaaGreatTbQmC
open Go Go.RowKit Go.WideMaps
namespace Go.Proofs.YthcleccofccbdaaGreat
theorem any_snoc (m : List UInt8) (l : List MarkR) (x : H32) (j : Nat) (h : j < l.length) : (l.take (j + 1)).any (signsB m x) = ((l.take j).any (signsB m x) || signsB m x (gt l j)) := by
  rw [← List.take_append_getElem h, List.any_append]
  simp [gt, List.getD_eq_getElem?_getD, h]
theorem any_of (m : List UInt8) (l : List MarkR) (x : H32) (j : Nat) (h : j < l.length) (h4 : j < 4) (hs : signsB m x (gt l j) = true) : (l.take 4).any (signsB m x) = true := by
  refine List.any_eq_true.2 ⟨gt l j, ?_, hs⟩
  have e : gt l j = (l.take 4)[j]'(by rw [List.length_take]; omega) := by simp [gt, List.getD_eq_getElem?_getD, h]
  rw [e]
  exact List.getElem_mem _
theorem any_end (m : List UInt8) (l : List MarkR) (x : H32) (j : Nat) (h : j = l.length ∨ j = 4) (hj : j ≤ l.length) (h4 : j ≤ 4) (hs : (l.take j).any (signsB m x) = false) : (l.take 4).any (signsB m x) = false := by
  rcases h with rfl | rfl
  · rw [List.take_of_length_le (by omega)]
    rwa [List.take_of_length_le (Nat.le_refl _)] at hs
  · exact hs
set_option maxRecDepth 100000 in
set_option maxHeartbeats 6400000 in
theorem rwho_calls {m : List UInt8} {nb cb n c nk ck : Nat} {M A K : Option Addr} {l : List MarkR} {ks : List H32} (need : Int) {w : World} [hm : HR w M (bs m)] [hr : HR w A (cellsOf l)] [hK : HR w K (cellsOf ks)] (hM : ∀ r ∈ l, MarkIn w r) (hl : l.length = n) (hmax : n ≤ 9223372036854775807) (hlm : m.length = nb) (hn : nb ≤ 140737488351232) (hk : ks.length = nk) (hk9 : nk ≤ 10000) :
    Calls Tryz.prog 173 #[.agg #[.slice M nb cb, .slice A n c], .agg #[.slice K nk ck, .int .i64 need]] w fun e w' => WhoPost (whoN m l ks nk) w w' e := by
  have hq := eqlH
  have HMI := Lib.hid hM
  have HM := Lib.hid hlm
  have HL := Lib.hid hl
  clear hM hlm
  go_enter Tryz.func173, Tryz.ntmps173
  go_wp2_with (first | ((with_reducible apply (wpl_box_agg (dst := some 2))); (exact rfl); intro ze wze _ _ _) | ((with_reducible apply (wpl_box_agg (dst := some 3))); (exact rfl); intro zk wzk _ _ _))
  go_loopw [5, 6] (fun sv kv wr => ∃ (k : Nat) (B : Option Addr) (c2 nw : Nat) (W : List H32), k ≤ nk ∧ nw ≤ k ∧ kv = .int .i64 (k : Int) ∧ sv = .slice B nw c2 ∧ Hid (W = whoN m l ks k) ∧ Hid (W.length = nw) ∧ Step nowhere w wr ∧ HO wr 47 32 B nw c2 (cellsOf W) ∧ NewA w B ∧ OffB (rowOf B) ze ∧ OffB (rowOf B) zk ∧ HB wr ze 133 #[.slice M nb cb, .slice A n c] ∧ HB wr zk 42 #[.slice K nk ck, .int .i64 need]) (fun _ kv _ => nk - (intOf kv).toNat)
  case atStart => exact ⟨0, none, 0, 0, [], Nat.zero_le _, Nat.le_refl _, rfl, rfl, Lib.hid rfl, Lib.hid rfl, stepN, ⟨Own.nil _ _ _⟩, NewA.of_none _, inferInstance, inferInstance, inferInstance, inferInstance⟩
  case round =>
    obtain ⟨k, B, c2, nw, W, hkn, hnw, rfl, rfl, HW, HWL, _, _, _, _, _, _, _⟩ := hrel
    by_cases hlt : k < nk
    · have hltI : (k : Int) < nk := by omega
      have hkl : k < ks.length := by omega
      go_wp2_with (first | ((with_reducible apply wpl_loadcellN); (exact rfl); infer_instance; (exact rfl)))
      go_loopw [7, 8] (fun bv jv wj => ∃ (j : Nat) (b : Bool), j ≤ k ∧ bv = .bool b ∧ jv = .int .i64 (j : Int) ∧ Hid (b = decide (hget ks k ∈ ks.take j)) ∧ Step nowhere wr wj) (fun _ jv _ => k - (intOf jv).toNat)
      case atStart => exact ⟨0, false, Nat.zero_le _, rfl, rfl, Lib.hid (by simp), ⟨Chg.refl _ _⟩⟩
      case round =>
        obtain ⟨j, b, hjk, rfl, rfl, HB1, _⟩ := hrel
        by_cases hjl : j < k
        · have hjI : (j : Int) < k := by omega
          have hjn : j < nk := by omega
          have hjL : j < ks.length := by omega
          have hTK := take_snoc ks j hjL
          cases b with
          | true =>
            have HB2 : Hid (true = decide (hget ks k ∈ ks.take (j + 1))) := Lib.hid (by
              have h1 := HB1.out
              rw [hTK]
              refine (decide_eq_true (List.mem_append_left _ (of_decide_eq_true h1.symm))).symm)
            clear hTK
            go_wp2_with fail
            refine wp_region_N (nowhere) (by kernel_rfl) (fun wd _ _ => ?_)
            refine' takeH (i := 0) (v := _) rfl (by kernel_rfl) (by kernel_rfl) (by kernel_rfl) (fun _ _ _ h => h) (yields_of (by rfl) (fun w' _ => ?_)) inferInstance ?_
            rotate_left
            · (go_simp; try with_reducible rfl)
            try simp only [Act.put, sA]; try simp only [sB, sC]
            refine' takeH (i := 1) (v := _) rfl (by kernel_rfl) (by kernel_rfl) (by kernel_rfl) (fun _ _ _ h => h) (yields_of (by rfl) (fun w' _ => ?_)) inferInstance ?_
            rotate_left
            · (go_simp; try with_reducible rfl)
            try simp only [Act.put, sA]; try simp only [sB, sC]
            refine takeH (i := 2) (v := undef) rfl (by kernel_rfl) (by kernel_rfl) (by kernel_rfl) (fun _ _ _ h => h) (Or.inr ⟨by rfl, rfl⟩) inferInstance ?_
            try simp only [Act.put, sA]; try simp only [sB, sC]
            refine takeH (i := 3) (v := undef) rfl (by kernel_rfl) (by kernel_rfl) (by kernel_rfl) (fun _ _ _ h => h) (Or.inr ⟨by rfl, rfl⟩) inferInstance ?_
            try simp only [Act.put, sA]; try simp only [sB, sC]
            refine takeH (i := 4) (v := undef) rfl (by kernel_rfl) (by kernel_rfl) (by kernel_rfl) (fun _ _ _ h => h) (Or.inr ⟨by rfl, rfl⟩) inferInstance ?_
            try simp only [Act.put, sA]; try simp only [sB, sC]
            refine takeH (i := 5) (v := undef) rfl (by kernel_rfl) (by kernel_rfl) (by kernel_rfl) (fun _ _ _ h => h) (Or.inr ⟨by rfl, rfl⟩) inferInstance ?_
            try simp only [Act.put, sA]; try simp only [sB, sC]
            refine takeH (i := 6) (v := undef) rfl (by kernel_rfl) (by kernel_rfl) (by kernel_rfl) (fun _ _ _ h => h) (Or.inr ⟨by rfl, rfl⟩) inferInstance ?_
            try simp only [Act.put, sA]; try simp only [sB, sC]
            refine takeH (i := 7) (v := undef) rfl (by kernel_rfl) (by kernel_rfl) (by kernel_rfl) (fun _ _ _ h => h) (Or.inr ⟨by rfl, rfl⟩) inferInstance ?_
            try simp only [Act.put, sA]; try simp only [sB, sC]
            refine takeH (i := 8) (v := undef) rfl (by kernel_rfl) (by kernel_rfl) (by kernel_rfl) (fun _ _ _ h => h) (Or.inr ⟨by rfl, rfl⟩) inferInstance ?_
            try simp only [Act.put, sA]; try simp only [sB, sC]
            refine takeH (i := 9) (v := undef) rfl (by kernel_rfl) (by kernel_rfl) (by kernel_rfl) (fun _ _ _ h => h) (Or.inr ⟨by rfl, rfl⟩) inferInstance ?_
            try simp only [Act.put, sA]; try simp only [sB, sC]
            refine takeH (i := 10) (v := undef) rfl (by kernel_rfl) (by kernel_rfl) (by kernel_rfl) (fun _ _ _ h => h) (Or.inr ⟨by rfl, rfl⟩) inferInstance ?_
            try simp only [Act.put, sA]; try simp only [sB, sC]
            refine takeH (i := 11) (v := undef) rfl (by kernel_rfl) (by kernel_rfl) (by kernel_rfl) (fun _ _ _ h => h) (Or.inr ⟨by rfl, rfl⟩) inferInstance ?_
            try simp only [Act.put, sA]; try simp only [sB, sC]
            refine takeH (i := 12) (v := undef) rfl (by kernel_rfl) (by kernel_rfl) (by kernel_rfl) (fun _ _ _ h => h) (Or.inr ⟨by rfl, rfl⟩) inferInstance ?_
            try simp only [Act.put, sA]; try simp only [sB, sC]
            refine' takeH (i := 13) (v := _) rfl (by kernel_rfl) (by kernel_rfl) (by kernel_rfl) (fun _ _ _ h => h) (yields_of (by rfl) (fun w' _ => ?_)) inferInstance ?_
            rotate_left
            · (go_simp; try with_reducible rfl)
            try simp only [Act.put, sA]; try simp only [sB, sC]
            refine' takeH (i := 14) (v := _) rfl (by kernel_rfl) (by kernel_rfl) (by kernel_rfl) (fun _ _ _ h => h) (yields_of (by rfl) (fun w' _ => ?_)) inferInstance ?_
            rotate_left
            · (go_simp; try with_reducible rfl)
            try simp only [Act.put, sA]; try simp only [sB, sC]
            refine wpAnyH_done (by kernel_rfl) ?_ _
            go_wp2_with fail
            exact ⟨⟨j + 1, true, by omega, rfl, by go_num, HB2, stepN⟩, by simp [intOf]; omega⟩
          | false =>
            have HB2 : Hid (decide (hget ks j = hget ks k) = decide (hget ks k ∈ ks.take (j + 1))) := Lib.hid (by
              have h1 : ¬ hget ks k ∈ ks.take j := of_decide_eq_false HB1.out.symm
              rw [hTK]
              refine decide_eq_decide.2 ⟨fun h => ?_, fun h => ?_⟩
              · rw [← h]
                exact List.mem_append_right _ (List.mem_singleton.2 rfl)
              · rcases List.mem_append.1 h with h2 | h2
                · exact absurd h2 h1
                · exact (List.mem_singleton.1 h2).symm)
            clear hTK
            go_wp2_with fail
            refine wp_region_N (nowhere) (by kernel_rfl) (fun wd _ _ => ?_)
            refine' takeH (i := 0) (v := _) rfl (by kernel_rfl) (by kernel_rfl) (by kernel_rfl) (fun _ _ _ h => h) (yields_of (by rfl) (fun w' _ => ?_)) inferInstance ?_
            rotate_left
            · (go_simp; try with_reducible rfl)
            try simp only [Act.put, sA]; try simp only [sB, sC]
            refine' takeH (i := 1) (v := _) rfl (by kernel_rfl) (by kernel_rfl) (by kernel_rfl) (fun _ _ _ h => h) (yields_of (by rfl) (fun w' _ => ?_)) inferInstance ?_
            rotate_left
            · (go_simp; try with_reducible rfl)
            try simp only [Act.put, sA]; try simp only [sB, sC]
            refine' takeH (i := 2) (v := _) rfl (by kernel_rfl) (by kernel_rfl) (by kernel_rfl) (fun _ _ _ h => h) (yields_of (by rfl) (fun w' _ => ?_)) inferInstance ?_
            rotate_left
            · (go_simp; try with_reducible rfl)
            try simp only [Act.put, sA]; try simp only [sB, sC]
            refine' takeH (i := 3) (v := _) rfl (by kernel_rfl) (by kernel_rfl) (by kernel_rfl) (fun _ _ _ h => h) (yields_of (by rfl) (fun w' _ => ?_)) inferInstance ?_
            rotate_left
            · ((with_reducible apply ev_loadcellN); (exact rfl); infer_instance; infer_instance; (exact rfl))
            try simp only [Act.put, sA]; try simp only [sB, sC]
            refine' takeH (i := 4) (v := _) rfl (by kernel_rfl) (by kernel_rfl) (by kernel_rfl) (fun _ _ _ h => h) (yields_of (by rfl) (fun w' _ => ?_)) inferInstance ?_
            rotate_left
            · (go_simp; try with_reducible rfl)
            try simp only [Act.put, sA]; try simp only [sB, sC]
            refine' takeH (i := 5) (v := _) rfl (by kernel_rfl) (by kernel_rfl) (by kernel_rfl) (fun _ _ _ h => h) (yields_of (by rfl) (fun w' _ => ?_)) inferInstance ?_
            rotate_left
            · ((with_reducible apply ev_indexH'); (exact rfl); (exact rfl); infer_instance; infer_instance; (first | (with_reducible assumption) | omega); (first | (with_reducible assumption) | omega); (first | (with_reducible assumption) | omega))
            try simp only [Act.put, sA]; try simp only [sB, sC]
            refine' takeH (i := 6) (v := _) rfl (by kernel_rfl) (by kernel_rfl) (by kernel_rfl) (fun _ _ _ h => h) (yields_of (by rfl) (fun w' _ => ?_)) inferInstance ?_
            rotate_left
            · ((with_reducible apply (ev_loadhash (t := 47))); (exact rfl); infer_instance; infer_instance; (first | (with_reducible assumption) | omega))
            try simp only [Act.put, sA]; try simp only [sB, sC]
            refine' takeH (i := 7) (v := _) rfl (by kernel_rfl) (by kernel_rfl) (by kernel_rfl) (fun _ _ _ h => h) (yields_of (by rfl) (fun w' _ => ?_)) inferInstance ?_
            rotate_left
            · (go_simp; try with_reducible rfl)
            try simp only [Act.put, sA]; try simp only [sB, sC]
            refine' takeH (i := 8) (v := _) rfl (by kernel_rfl) (by kernel_rfl) (by kernel_rfl) (fun _ _ _ h => h) (yields_of (by rfl) (fun w' _ => ?_)) inferInstance ?_
            rotate_left
            · ((with_reducible apply ev_loadcellN); (exact rfl); infer_instance; infer_instance; (exact rfl))
            try simp only [Act.put, sA]; try simp only [sB, sC]
            refine' takeH (i := 9) (v := _) rfl (by kernel_rfl) (by kernel_rfl) (by kernel_rfl) (fun _ _ _ h => h) (yields_of (by rfl) (fun w' _ => ?_)) inferInstance ?_
            rotate_left
            · (go_simp; try with_reducible rfl)
            try simp only [Act.put, sA]; try simp only [sB, sC]
            refine' takeH (i := 10) (v := _) rfl (by kernel_rfl) (by kernel_rfl) (by kernel_rfl) (fun _ _ _ h => h) (yields_of (by rfl) (fun w' _ => ?_)) inferInstance ?_
            rotate_left
            · ((with_reducible apply ev_indexH'); (exact rfl); (exact rfl); infer_instance; infer_instance; (first | (with_reducible assumption) | omega); (first | (with_reducible assumption) | omega); (first | (with_reducible assumption) | omega))
            try simp only [Act.put, sA]; try simp only [sB, sC]
            refine' takeH (i := 11) (v := _) rfl (by kernel_rfl) (by kernel_rfl) (by kernel_rfl) (fun _ _ _ h => h) (yields_of (by rfl) (fun w' _ => ?_)) inferInstance ?_
            rotate_left
            · ((with_reducible apply (ev_loadhash (t := 47))); (exact rfl); infer_instance; infer_instance; (first | (with_reducible assumption) | omega))
            try simp only [Act.put, sA]; try simp only [sB, sC]
            refine' takeH (i := 12) (v := _) rfl (by kernel_rfl) (by kernel_rfl) (by kernel_rfl) (fun _ _ _ h => h) (yields_of (by rfl) (fun w' _ => ?_)) inferInstance ?_
            rotate_left
            · (go_simp; try with_reducible rfl)
            try simp only [Act.put, sA]; try simp only [sB, sC]
            refine' takeH (i := 13) (v := _) rfl (by kernel_rfl) (by kernel_rfl) (by kernel_rfl) (fun _ _ _ h => h) (yields_of (by rfl) (fun w' _ => ?_)) inferInstance ?_
            rotate_left
            · (go_simp; try with_reducible rfl)
            try simp only [Act.put, sA]; try simp only [sB, sC]
            refine' takeH (i := 14) (v := _) rfl (by kernel_rfl) (by kernel_rfl) (by kernel_rfl) (fun _ _ _ h => h) (yields_of (by rfl) (fun w' _ => ?_)) inferInstance ?_
            rotate_left
            · (go_simp; try with_reducible rfl)
            try simp only [Act.put, sA]; try simp only [sB, sC]
            refine wpAnyH_done (by kernel_rfl) ?_ _
            go_wp2_with fail
            exact ⟨⟨j + 1, _, by omega, rfl, by go_num, HB2, stepN⟩, by simp [intOf]; omega⟩
        · have hjI : ¬ (j : Int) < k := by omega
          have hje : j = k := by omega
          have HB2 : Hid (b = decide (hget ks k ∈ ks.take k)) := Lib.hid (by
            have h1 := HB1.out
            rwa [hje] at h1)
          clear hje
          go_wp2_with fail
          go_loopw [5, 7, 9] (fun sv bv jv wt => ∃ (j : Nat) (b : Bool) (B : Option Addr) (c2 nw : Nat) (W : List H32), j ≤ n ∧ j ≤ 4 ∧ nw ≤ k + 1 ∧ (b = false → nw ≤ k) ∧ sv = .slice B nw c2 ∧ bv = .bool b ∧ jv = .int .i64 (j : Int) ∧ Hid (b = true → W = whoN m l ks (k + 1)) ∧ Hid (b = false → W = whoN m l ks k ∧ ¬ hget ks k ∈ ks.take k ∧ (l.take j).any (signsB m (hget ks k)) = false) ∧ Hid (W.length = nw) ∧ Step nowhere w wt ∧ HO wt 47 32 B nw c2 (cellsOf W) ∧ NewA w B ∧ OffB (rowOf B) ze ∧ OffB (rowOf B) zk ∧ HB wt ze 133 #[.slice M nb cb, .slice A n c] ∧ HB wt zk 42 #[.slice K nk ck, .int .i64 need]) (fun _ _ jv _ => 5 - (intOf jv).toNat)
          case atStart =>
            refine ⟨0, b, B, c2, nw, W, Nat.zero_le _, Nat.zero_le _, by omega, fun _ => hnw, rfl, rfl, rfl, Lib.hid (fun h => ?_), Lib.hid (fun h => ⟨HW.out, ?_, by simp⟩), HWL, stepN, inferInstance, inferInstance, inferInstance, inferInstance, inferInstance, inferInstance⟩
            · rw [whoN_in m l ks k (of_decide_eq_true (by rw [← HB2.out]; exact h))]
              exact HW.out
            · exact of_decide_eq_false (by rw [← HB2.out]; exact h)
          case round =>
            clear HW HWL HB1 HB2
            obtain ⟨j, b, B, c2, nw, W, hjn, hj4, hnw1, hnw2, rfl, rfl, rfl, HT, HF, HWL, _, _, _, _, _, _, _⟩ := hrel
            cases b with
            | true =>
              have HW2 : Hid (W = whoN m l ks (k + 1)) := Lib.hid (HT.out rfl)
              clear HT HF
              by_cases hjx : j < n
              · have e1 : (j : Int) < n := by omega
                by_cases hjy : j < 4
                · have e2 : (j : Int) < 4 := by omega
                  go_wp2_with (first | ((with_reducible apply wpl_loadcellN); (exact rfl); infer_instance; (exact rfl)))
                  exact ⟨⟨k + 1, B, c2, nw, W, by omega, by omega, by go_num, rfl, HW2, HWL, stepN, inferInstance, inferInstance, inferInstance, inferInstance, inferInstance, inferInstance⟩, by simp [intOf]; omega⟩
                · have e2 : ¬ (j : Int) < 4 := by omega
                  go_wp2_with (first | ((with_reducible apply wpl_loadcellN); (exact rfl); infer_instance; (exact rfl)))
                  exact ⟨⟨k + 1, B, c2, nw, W, by omega, by omega, by go_num, rfl, HW2, HWL, stepN, inferInstance, inferInstance, inferInstance, inferInstance, inferInstance, inferInstance⟩, by simp [intOf]; omega⟩
              · have e1 : ¬ (j : Int) < n := by omega
                go_wp2_with (first | ((with_reducible apply wpl_loadcellN); (exact rfl); infer_instance; (exact rfl)))
                exact ⟨⟨k + 1, B, c2, nw, W, by omega, by omega, by go_num, rfl, HW2, HWL, stepN, inferInstance, inferInstance, inferInstance, inferInstance, inferInstance, inferInstance⟩, by simp [intOf]; omega⟩
            | false =>
              have hnk := hnw2 rfl
              by_cases hjx : j < n ∧ j < 4
              · obtain ⟨hjx, hjy⟩ := hjx
                have e1 : (j : Int) < n := by omega
                have e2 : (j : Int) < 4 := by omega
                have hjl : j < l.length := by omega
                obtain ⟨h1, h2, h3⟩ := HF.out rfl
                have han := any_snoc m l (hget ks k) j hjl
                rw [h3, Bool.false_or] at han
                have hmem : gt l j ∈ l := gt_mem l j hjl
                have HMK : Hid (MarkIn w (gt l j)) := Lib.hid (HMI.out _ hmem)
                have kb1 := run_oneH (hget ks k)
                have hnw9 : nw + 1 ≤ 1000000000 := by omega
                obtain ⟨V, hV⟩ : ∃ V, V = verifyS (hget ks k) m (gt l j).leaf (gt l j).l (gt l j).p := ⟨_, rfl⟩
                have HV := Lib.hid hV
                by_cases hkey : (gt l j).key = hget ks k
                · have hd : decide ((gt l j).key = hget ks k) = true := decide_eq_true hkey
                  have hsg : signsB m (hget ks k) (gt l j) = V := by rw [signsB, hd, hV]; rfl
                  rw [hsg] at han
                  cases V with
                  | true =>
                    have HW2 : Hid (W ++ [hget ks k] = whoN m l ks (k + 1)) := Lib.hid (by rw [whoN_more m l ks k h2 (any_of m l _ j hjl hjy hsg), ← h1])
                    have HWL2 : Hid ((W ++ [hget ks k]).length = nw + 1) := Lib.hid (by rw [List.length_append, HWL.out]; rfl)
                    clear hV HT HF hnw2 h1 h2 h3 han hmem hkey hsg
                    go_wp2_with (first | ((with_reducible apply wpl_loadcellN); (exact rfl); infer_instance; (exact rfl)))
                    refine wp_region_N (nowhere) (by kernel_rfl) (fun wd _ _ => ?_)
                    refine' takeH (i := 0) (v := _) rfl (by kernel_rfl) (by kernel_rfl) (by kernel_rfl) (fun _ _ _ h => h) (yields_of (by rfl) (fun w' _ => ?_)) inferInstance ?_
                    rotate_left
                    · (go_simp; try with_reducible rfl)
                    try simp only [Act.put, sA]; try simp only [sB, sC]
                    refine' takeH (i := 1) (v := _) rfl (by kernel_rfl) (by kernel_rfl) (by kernel_rfl) (fun _ _ _ h => h) (yields_of (by rfl) (fun w' _ => ?_)) inferInstance ?_
                    rotate_left
                    · ((with_reducible apply ev_loadcellN); (exact rfl); infer_instance; infer_instance; (exact rfl))
                    try simp only [Act.put, sA]; try simp only [sB, sC]
                    refine' takeH (i := 2) (v := _) rfl (by kernel_rfl) (by kernel_rfl) (by kernel_rfl) (fun _ _ _ h => h) (yields_of (by rfl) (fun w' _ => ?_)) inferInstance ?_
                    rotate_left
                    · (go_simp; try with_reducible rfl)
                    try simp only [Act.put, sA]; try simp only [sB, sC]
                    refine' takeH (i := 3) (v := _) rfl (by kernel_rfl) (by kernel_rfl) (by kernel_rfl) (fun _ _ _ h => h) (yields_of (by rfl) (fun w' _ => ?_)) inferInstance ?_
                    rotate_left
                    · ((with_reducible apply (ev_indexE (α := MarkR) (t := 131))); (exact rfl); (exact rfl); infer_instance; infer_instance; (first | (with_reducible assumption) | omega | (focus (simp; done)) | (focus (simp; omega; done)) | decide); (exact rfl); (decide); (first | (with_reducible assumption) | omega | (focus (simp; done)) | (focus (simp; omega; done)) | decide))
                    try simp only [Act.put, sA]; try simp only [sB, sC]
                    refine' takeH (i := 4) (v := _) rfl (by kernel_rfl) (by kernel_rfl) (by kernel_rfl) (fun _ _ _ h => h) (yields_of (by rfl) (fun w' _ => ?_)) inferInstance ?_
                    rotate_left
                    · ((with_reducible apply (ev_fieldE (t := 137))); (exact Tryz.underlying137); (exact rfl); (kernel_rfl); (exact rfl); infer_instance; (exact cells_pos (by decide) (by omega)))
                    try simp only [Act.put, sA]; try simp only [sB, sC]
                    refine' takeH (i := 5) (v := _) rfl (by kernel_rfl) (by kernel_rfl) (by kernel_rfl) (fun _ _ _ h => h) (yields_of (by rfl) (fun w' _ => ?_)) inferInstance ?_
                    rotate_left
                    · ((with_reducible apply (ev_loadEPH (α := MarkR) (t := 47) (j := 0) (s := 35))); infer_instance; (exact rfl); infer_instance; (exact rfl); (first | (with_reducible assumption) | omega); (exact mark_key _))
                    try simp only [Act.put, sA]; try simp only [sB, sC]
                    refine' takeH (i := 6) (v := _) rfl (by kernel_rfl) (by kernel_rfl) (by kernel_rfl) (fun _ _ _ h => h) (yields_of (by rfl) (fun w' _ => ?_)) inferInstance ?_
                    rotate_left
                    · (go_simp; try with_reducible rfl)
                    try simp only [Act.put, sA]; try simp only [sB, sC]
                    refine' takeH (i := 7) (v := _) rfl (by kernel_rfl) (by kernel_rfl) (by kernel_rfl) (fun _ _ _ h => h) (yields_of (by rfl) (fun w' _ => ?_)) inferInstance ?_
                    rotate_left
                    · ((with_reducible apply ev_loadcellN); (exact rfl); infer_instance; infer_instance; (exact rfl))
                    try simp only [Act.put, sA]; try simp only [sB, sC]
                    refine' takeH (i := 8) (v := _) rfl (by kernel_rfl) (by kernel_rfl) (by kernel_rfl) (fun _ _ _ h => h) (yields_of (by rfl) (fun w' _ => ?_)) inferInstance ?_
                    rotate_left
                    · (go_simp; try with_reducible rfl)
                    try simp only [Act.put, sA]; try simp only [sB, sC]
                    refine' takeH (i := 9) (v := _) rfl (by kernel_rfl) (by kernel_rfl) (by kernel_rfl) (fun _ _ _ h => h) (yields_of (by rfl) (fun w' _ => ?_)) inferInstance ?_
                    rotate_left
                    · ((with_reducible apply ev_indexH'); (exact rfl); (exact rfl); infer_instance; infer_instance; (first | (with_reducible assumption) | omega); (first | (with_reducible assumption) | omega); (first | (with_reducible assumption) | omega))
                    try simp only [Act.put, sA]; try simp only [sB, sC]
                    refine' takeH (i := 10) (v := _) rfl (by kernel_rfl) (by kernel_rfl) (by kernel_rfl) (fun _ _ _ h => h) (yields_of (by rfl) (fun w' _ => ?_)) inferInstance ?_
                    rotate_left
                    · ((with_reducible apply (ev_loadhash (t := 47))); (exact rfl); infer_instance; infer_instance; (first | (with_reducible assumption) | omega))
                    try simp only [Act.put, sA]; try simp only [sB, sC]
                    refine' takeH (i := 11) (v := _) rfl (by kernel_rfl) (by kernel_rfl) (by kernel_rfl) (fun _ _ _ h => h) (yields_of (by rfl) (fun w' _ => ?_)) inferInstance ?_
                    rotate_left
                    · (go_simp; try with_reducible rfl)
                    try simp only [Act.put, sA]; try simp only [sB, sC]
                    refine' takeH (i := 12) (v := _) rfl (by kernel_rfl) (by kernel_rfl) (by kernel_rfl) (fun _ _ _ h => h) (yields_of (by rfl) (fun w' _ => ?_)) inferInstance ?_
                    rotate_left
                    · (go_simp; try with_reducible rfl)
                    try simp only [Act.put, sA]; try simp only [sB, sC]
                    refine' takeH (i := 13) (v := _) rfl (by kernel_rfl) (by kernel_rfl) (by kernel_rfl) (fun _ _ _ h => h) (yields_of (by rfl) (fun w' _ => ?_)) inferInstance ?_
                    rotate_left
                    · (go_simp; try with_reducible rfl)
                    try simp only [Act.put, sA]; try simp only [sB, sC]
                    refine' takeH (i := 14) (v := _) rfl (by kernel_rfl) (by kernel_rfl) (by kernel_rfl) (fun _ _ _ h => h) (yields_of (by rfl) (fun w' _ => ?_)) inferInstance ?_
                    rotate_left
                    · ((with_reducible apply ev_loadcellN); (exact rfl); infer_instance; infer_instance; (exact rfl))
                    try simp only [Act.put, sA]; try simp only [sB, sC]
                    refine' takeH (i := 15) (v := _) rfl (by kernel_rfl) (by kernel_rfl) (by kernel_rfl) (fun _ _ _ h => h) (yields_of (by rfl) (fun w' _ => ?_)) inferInstance ?_
                    rotate_left
                    · (go_simp; try with_reducible rfl)
                    try simp only [Act.put, sA]; try simp only [sB, sC]
                    refine' takeH (i := 16) (v := _) rfl (by kernel_rfl) (by kernel_rfl) (by kernel_rfl) (fun _ _ _ h => h) (yields_of (by rfl) (fun w' _ => ?_)) inferInstance ?_
                    rotate_left
                    · ((with_reducible apply ev_indexH'); (exact rfl); (exact rfl); infer_instance; infer_instance; (first | (with_reducible assumption) | omega); (first | (with_reducible assumption) | omega); (first | (with_reducible assumption) | omega))
                    try simp only [Act.put, sA]; try simp only [sB, sC]
                    refine' takeH (i := 17) (v := _) rfl (by kernel_rfl) (by kernel_rfl) (by kernel_rfl) (fun _ _ _ h => h) (yields_of (by rfl) (fun w' _ => ?_)) inferInstance ?_
                    rotate_left
                    · ((with_reducible apply (ev_loadhash (t := 47))); (exact rfl); infer_instance; infer_instance; (first | (with_reducible assumption) | omega))
                    try simp only [Act.put, sA]; try simp only [sB, sC]
                    refine' takeH (i := 18) (v := _) rfl (by kernel_rfl) (by kernel_rfl) (by kernel_rfl) (fun _ _ _ h => h) (yields_of (by rfl) (fun w' _ => ?_)) inferInstance ?_
                    rotate_left
                    · (go_simp; try with_reducible rfl)
                    try simp only [Act.put, sA]; try simp only [sB, sC]
                    refine' takeH (i := 19) (v := _) rfl (by kernel_rfl) (by kernel_rfl) (by kernel_rfl) (fun _ _ _ h => h) (yields_of (by rfl) (fun w' _ => ?_)) inferInstance ?_
                    rotate_left
                    · ((with_reducible apply ev_loadcellN); (exact rfl); infer_instance; infer_instance; (exact rfl))
                    try simp only [Act.put, sA]; try simp only [sB, sC]
                    refine' takeH (i := 20) (v := _) rfl (by kernel_rfl) (by kernel_rfl) (by kernel_rfl) (fun _ _ _ h => h) (yields_of (by rfl) (fun w' _ => ?_)) inferInstance ?_
                    rotate_left
                    · (go_simp; try with_reducible rfl)
                    try simp only [Act.put, sA]; try simp only [sB, sC]
                    refine' takeH (i := 21) (v := _) rfl (by kernel_rfl) (by kernel_rfl) (by kernel_rfl) (fun _ _ _ h => h) (yields_of (by rfl) (fun w' _ => ?_)) inferInstance ?_
                    rotate_left
                    · ((with_reducible apply ev_loadcellN); (exact rfl); infer_instance; infer_instance; (exact rfl))
                    try simp only [Act.put, sA]; try simp only [sB, sC]
                    refine' takeH (i := 22) (v := _) rfl (by kernel_rfl) (by kernel_rfl) (by kernel_rfl) (fun _ _ _ h => h) (yields_of (by rfl) (fun w' _ => ?_)) inferInstance ?_
                    rotate_left
                    · (go_simp; try with_reducible rfl)
                    try simp only [Act.put, sA]; try simp only [sB, sC]
                    refine' takeH (i := 23) (v := _) rfl (by kernel_rfl) (by kernel_rfl) (by kernel_rfl) (fun _ _ _ h => h) (yields_of (by rfl) (fun w' _ => ?_)) inferInstance ?_
                    rotate_left
                    · ((with_reducible apply (ev_indexE (α := MarkR) (t := 131))); (exact rfl); (exact rfl); infer_instance; infer_instance; (first | (with_reducible assumption) | omega | (focus (simp; done)) | (focus (simp; omega; done)) | decide); (exact rfl); (decide); (first | (with_reducible assumption) | omega | (focus (simp; done)) | (focus (simp; omega; done)) | decide))
                    try simp only [Act.put, sA]; try simp only [sB, sC]
                    refine' takeH (i := 24) (v := _) rfl (by kernel_rfl) (by kernel_rfl) (by kernel_rfl) (fun _ _ _ h => h) (yields_of (by rfl) (fun w' _ => ?_)) inferInstance ?_
                    rotate_left
                    · ((with_reducible apply (ev_fieldE (t := 137))); (exact Tryz.underlying137); (exact rfl); (kernel_rfl); (exact rfl); infer_instance; (exact cells_pos (by decide) (by omega)))
                    try simp only [Act.put, sA]; try simp only [sB, sC]
                    refine' takeH (i := 25) (v := _) rfl (by kernel_rfl) (by kernel_rfl) (by kernel_rfl) (fun _ _ _ h => h) (yields_of (by rfl) (fun w' _ => ?_)) inferInstance ?_
                    rotate_left
                    · ((with_reducible apply (ev_loadEP (α := MarkR) (t := 135) (j := 32) (s := 35))); infer_instance; (exact rfl); infer_instance; (exact rfl); (decide); (first | (with_reducible assumption) | omega); (exact mark_sig _); (exact rfl))
                    try simp only [Act.put, sA]; try simp only [sB, sC]
                    refine goH (i := 26) (by kernel_rfl) rfl (fun K_ hK_ => ?_)
                    go_simp
                    refine (rverifyM_calls (hget ks k) (gt l j) w HMK.out HM.out hn).mono ?_
                    rw [← HV.out]
                    rintro e w1 ⟨rfl, _⟩
                    refine hK_.out _ _ inferInstance (fun _ => ?_)
                    clear hK_ K_
                    try simp only [Act.put, sA]; try simp only [sB, sC]
                    refine' takeH (i := 27) (v := _) rfl (by kernel_rfl) (by kernel_rfl) (by kernel_rfl) (fun _ _ _ h => h) (yields_of (by rfl) (fun w' _ => ?_)) inferInstance ?_
                    rotate_left
                    · (go_simp; try with_reducible rfl)
                    try simp only [Act.put, sA]; try simp only [sB, sC]
                    refine wpAnyH_done (by kernel_rfl) ?_ _
                    go_wp2_with (first | ((with_reducible apply (stop_dst (dst := some 85))); (try simp only [Act.put, sA, sB, sC]); ((with_reducible apply (wpl_bslice (dst := some 85))); (exact kb1 _); intro zs wb _ _ _)) | ((with_reducible apply wpl_appendH); (exact rfl); (exact rfl); infer_instance; infer_instance; infer_instance; (exact hnw9); intro B2 c3 wa _ _ _ _) | ((with_reducible apply wpl_loadcellN); (exact rfl); infer_instance; (exact rfl)) | ((with_reducible apply wpl_indexH); (exact rfl); (exact rfl); infer_instance; infer_instance; (first | (with_reducible assumption) | omega); (first | (with_reducible assumption) | omega); (first | (with_reducible assumption) | omega)) | ((with_reducible apply (wpl_loadhash (t := 47))); (exact rfl); infer_instance; infer_instance; (first | (with_reducible assumption) | omega)))
                    refine ⟨⟨j + 1, true, B2, c3, nw + 1, W ++ [hget ks k], by omega, by omega, by omega, by simp, rfl, rfl, by go_num, Lib.hid (fun _ => HW2.out), Lib.hid (fun h => by cases h), HWL2, stepN, inferInstance, inferInstance, inferInstance, inferInstance, inferInstance, inferInstance⟩, by simp [intOf]; omega⟩
                  | false =>
                    have HF2 : Hid (W = whoN m l ks k ∧ ¬ hget ks k ∈ ks.take k ∧ (l.take (j + 1)).any (signsB m (hget ks k)) = false) := Lib.hid ⟨h1, h2, han⟩
                    clear hV HT HF hnw2 h1 h2 h3 han hmem hkey hsg
                    go_wp2_with (first | ((with_reducible apply wpl_loadcellN); (exact rfl); infer_instance; (exact rfl)))
                    refine wp_region_N (nowhere) (by kernel_rfl) (fun wd _ _ => ?_)
                    refine' takeH (i := 0) (v := _) rfl (by kernel_rfl) (by kernel_rfl) (by kernel_rfl) (fun _ _ _ h => h) (yields_of (by rfl) (fun w' _ => ?_)) inferInstance ?_
                    rotate_left
                    · (go_simp; try with_reducible rfl)
                    try simp only [Act.put, sA]; try simp only [sB, sC]
                    refine' takeH (i := 1) (v := _) rfl (by kernel_rfl) (by kernel_rfl) (by kernel_rfl) (fun _ _ _ h => h) (yields_of (by rfl) (fun w' _ => ?_)) inferInstance ?_
                    rotate_left
                    · ((with_reducible apply ev_loadcellN); (exact rfl); infer_instance; infer_instance; (exact rfl))
                    try simp only [Act.put, sA]; try simp only [sB, sC]
                    refine' takeH (i := 2) (v := _) rfl (by kernel_rfl) (by kernel_rfl) (by kernel_rfl) (fun _ _ _ h => h) (yields_of (by rfl) (fun w' _ => ?_)) inferInstance ?_
                    rotate_left
                    · (go_simp; try with_reducible rfl)
                    try simp only [Act.put, sA]; try simp only [sB, sC]
                    refine' takeH (i := 3) (v := _) rfl (by kernel_rfl) (by kernel_rfl) (by kernel_rfl) (fun _ _ _ h => h) (yields_of (by rfl) (fun w' _ => ?_)) inferInstance ?_
                    rotate_left
                    · ((with_reducible apply (ev_indexE (α := MarkR) (t := 131))); (exact rfl); (exact rfl); infer_instance; infer_instance; (first | (with_reducible assumption) | omega | (focus (simp; done)) | (focus (simp; omega; done)) | decide); (exact rfl); (decide); (first | (with_reducible assumption) | omega | (focus (simp; done)) | (focus (simp; omega; done)) | decide))
                    try simp only [Act.put, sA]; try simp only [sB, sC]
                    refine' takeH (i := 4) (v := _) rfl (by kernel_rfl) (by kernel_rfl) (by kernel_rfl) (fun _ _ _ h => h) (yields_of (by rfl) (fun w' _ => ?_)) inferInstance ?_
                    rotate_left
                    · ((with_reducible apply (ev_fieldE (t := 137))); (exact Tryz.underlying137); (exact rfl); (kernel_rfl); (exact rfl); infer_instance; (exact cells_pos (by decide) (by omega)))
                    try simp only [Act.put, sA]; try simp only [sB, sC]
                    refine' takeH (i := 5) (v := _) rfl (by kernel_rfl) (by kernel_rfl) (by kernel_rfl) (fun _ _ _ h => h) (yields_of (by rfl) (fun w' _ => ?_)) inferInstance ?_
                    rotate_left
                    · ((with_reducible apply (ev_loadEPH (α := MarkR) (t := 47) (j := 0) (s := 35))); infer_instance; (exact rfl); infer_instance; (exact rfl); (first | (with_reducible assumption) | omega); (exact mark_key _))
                    try simp only [Act.put, sA]; try simp only [sB, sC]
                    refine' takeH (i := 6) (v := _) rfl (by kernel_rfl) (by kernel_rfl) (by kernel_rfl) (fun _ _ _ h => h) (yields_of (by rfl) (fun w' _ => ?_)) inferInstance ?_
                    rotate_left
                    · (go_simp; try with_reducible rfl)
                    try simp only [Act.put, sA]; try simp only [sB, sC]
                    refine' takeH (i := 7) (v := _) rfl (by kernel_rfl) (by kernel_rfl) (by kernel_rfl) (fun _ _ _ h => h) (yields_of (by rfl) (fun w' _ => ?_)) inferInstance ?_
                    rotate_left
                    · ((with_reducible apply ev_loadcellN); (exact rfl); infer_instance; infer_instance; (exact rfl))
                    try simp only [Act.put, sA]; try simp only [sB, sC]
                    refine' takeH (i := 8) (v := _) rfl (by kernel_rfl) (by kernel_rfl) (by kernel_rfl) (fun _ _ _ h => h) (yields_of (by rfl) (fun w' _ => ?_)) inferInstance ?_
                    rotate_left
                    · (go_simp; try with_reducible rfl)
                    try simp only [Act.put, sA]; try simp only [sB, sC]
                    refine' takeH (i := 9) (v := _) rfl (by kernel_rfl) (by kernel_rfl) (by kernel_rfl) (fun _ _ _ h => h) (yields_of (by rfl) (fun w' _ => ?_)) inferInstance ?_
                    rotate_left
                    · ((with_reducible apply ev_indexH'); (exact rfl); (exact rfl); infer_instance; infer_instance; (first | (with_reducible assumption) | omega); (first | (with_reducible assumption) | omega); (first | (with_reducible assumption) | omega))
                    try simp only [Act.put, sA]; try simp only [sB, sC]
                    refine' takeH (i := 10) (v := _) rfl (by kernel_rfl) (by kernel_rfl) (by kernel_rfl) (fun _ _ _ h => h) (yields_of (by rfl) (fun w' _ => ?_)) inferInstance ?_
                    rotate_left
                    · ((with_reducible apply (ev_loadhash (t := 47))); (exact rfl); infer_instance; infer_instance; (first | (with_reducible assumption) | omega))
                    try simp only [Act.put, sA]; try simp only [sB, sC]
                    refine' takeH (i := 11) (v := _) rfl (by kernel_rfl) (by kernel_rfl) (by kernel_rfl) (fun _ _ _ h => h) (yields_of (by rfl) (fun w' _ => ?_)) inferInstance ?_
                    rotate_left
                    · (go_simp; try with_reducible rfl)
                    try simp only [Act.put, sA]; try simp only [sB, sC]
                    refine' takeH (i := 12) (v := _) rfl (by kernel_rfl) (by kernel_rfl) (by kernel_rfl) (fun _ _ _ h => h) (yields_of (by rfl) (fun w' _ => ?_)) inferInstance ?_
                    rotate_left
                    · (go_simp; try with_reducible rfl)
                    try simp only [Act.put, sA]; try simp only [sB, sC]
                    refine' takeH (i := 13) (v := _) rfl (by kernel_rfl) (by kernel_rfl) (by kernel_rfl) (fun _ _ _ h => h) (yields_of (by rfl) (fun w' _ => ?_)) inferInstance ?_
                    rotate_left
                    · (go_simp; try with_reducible rfl)
                    try simp only [Act.put, sA]; try simp only [sB, sC]
                    refine' takeH (i := 14) (v := _) rfl (by kernel_rfl) (by kernel_rfl) (by kernel_rfl) (fun _ _ _ h => h) (yields_of (by rfl) (fun w' _ => ?_)) inferInstance ?_
                    rotate_left
                    · ((with_reducible apply ev_loadcellN); (exact rfl); infer_instance; infer_instance; (exact rfl))
                    try simp only [Act.put, sA]; try simp only [sB, sC]
                    refine' takeH (i := 15) (v := _) rfl (by kernel_rfl) (by kernel_rfl) (by kernel_rfl) (fun _ _ _ h => h) (yields_of (by rfl) (fun w' _ => ?_)) inferInstance ?_
                    rotate_left
                    · (go_simp; try with_reducible rfl)
                    try simp only [Act.put, sA]; try simp only [sB, sC]
                    refine' takeH (i := 16) (v := _) rfl (by kernel_rfl) (by kernel_rfl) (by kernel_rfl) (fun _ _ _ h => h) (yields_of (by rfl) (fun w' _ => ?_)) inferInstance ?_
                    rotate_left
                    · ((with_reducible apply ev_indexH'); (exact rfl); (exact rfl); infer_instance; infer_instance; (first | (with_reducible assumption) | omega); (first | (with_reducible assumption) | omega); (first | (with_reducible assumption) | omega))
                    try simp only [Act.put, sA]; try simp only [sB, sC]
                    refine' takeH (i := 17) (v := _) rfl (by kernel_rfl) (by kernel_rfl) (by kernel_rfl) (fun _ _ _ h => h) (yields_of (by rfl) (fun w' _ => ?_)) inferInstance ?_
                    rotate_left
                    · ((with_reducible apply (ev_loadhash (t := 47))); (exact rfl); infer_instance; infer_instance; (first | (with_reducible assumption) | omega))
                    try simp only [Act.put, sA]; try simp only [sB, sC]
                    refine' takeH (i := 18) (v := _) rfl (by kernel_rfl) (by kernel_rfl) (by kernel_rfl) (fun _ _ _ h => h) (yields_of (by rfl) (fun w' _ => ?_)) inferInstance ?_
                    rotate_left
                    · (go_simp; try with_reducible rfl)
                    try simp only [Act.put, sA]; try simp only [sB, sC]
                    refine' takeH (i := 19) (v := _) rfl (by kernel_rfl) (by kernel_rfl) (by kernel_rfl) (fun _ _ _ h => h) (yields_of (by rfl) (fun w' _ => ?_)) inferInstance ?_
                    rotate_left
                    · ((with_reducible apply ev_loadcellN); (exact rfl); infer_instance; infer_instance; (exact rfl))
                    try simp only [Act.put, sA]; try simp only [sB, sC]
                    refine' takeH (i := 20) (v := _) rfl (by kernel_rfl) (by kernel_rfl) (by kernel_rfl) (fun _ _ _ h => h) (yields_of (by rfl) (fun w' _ => ?_)) inferInstance ?_
                    rotate_left
                    · (go_simp; try with_reducible rfl)
                    try simp only [Act.put, sA]; try simp only [sB, sC]
                    refine' takeH (i := 21) (v := _) rfl (by kernel_rfl) (by kernel_rfl) (by kernel_rfl) (fun _ _ _ h => h) (yields_of (by rfl) (fun w' _ => ?_)) inferInstance ?_
                    rotate_left
                    · ((with_reducible apply ev_loadcellN); (exact rfl); infer_instance; infer_instance; (exact rfl))
                    try simp only [Act.put, sA]; try simp only [sB, sC]
                    refine' takeH (i := 22) (v := _) rfl (by kernel_rfl) (by kernel_rfl) (by kernel_rfl) (fun _ _ _ h => h) (yields_of (by rfl) (fun w' _ => ?_)) inferInstance ?_
                    rotate_left
                    · (go_simp; try with_reducible rfl)
                    try simp only [Act.put, sA]; try simp only [sB, sC]
                    refine' takeH (i := 23) (v := _) rfl (by kernel_rfl) (by kernel_rfl) (by kernel_rfl) (fun _ _ _ h => h) (yields_of (by rfl) (fun w' _ => ?_)) inferInstance ?_
                    rotate_left
                    · ((with_reducible apply (ev_indexE (α := MarkR) (t := 131))); (exact rfl); (exact rfl); infer_instance; infer_instance; (first | (with_reducible assumption) | omega | (focus (simp; done)) | (focus (simp; omega; done)) | decide); (exact rfl); (decide); (first | (with_reducible assumption) | omega | (focus (simp; done)) | (focus (simp; omega; done)) | decide))
                    try simp only [Act.put, sA]; try simp only [sB, sC]
                    refine' takeH (i := 24) (v := _) rfl (by kernel_rfl) (by kernel_rfl) (by kernel_rfl) (fun _ _ _ h => h) (yields_of (by rfl) (fun w' _ => ?_)) inferInstance ?_
                    rotate_left
                    · ((with_reducible apply (ev_fieldE (t := 137))); (exact Tryz.underlying137); (exact rfl); (kernel_rfl); (exact rfl); infer_instance; (exact cells_pos (by decide) (by omega)))
                    try simp only [Act.put, sA]; try simp only [sB, sC]
                    refine' takeH (i := 25) (v := _) rfl (by kernel_rfl) (by kernel_rfl) (by kernel_rfl) (fun _ _ _ h => h) (yields_of (by rfl) (fun w' _ => ?_)) inferInstance ?_
                    rotate_left
                    · ((with_reducible apply (ev_loadEP (α := MarkR) (t := 135) (j := 32) (s := 35))); infer_instance; (exact rfl); infer_instance; (exact rfl); (decide); (first | (with_reducible assumption) | omega); (exact mark_sig _); (exact rfl))
                    try simp only [Act.put, sA]; try simp only [sB, sC]
                    refine goH (i := 26) (by kernel_rfl) rfl (fun K_ hK_ => ?_)
                    go_simp
                    refine (rverifyM_calls (hget ks k) (gt l j) w HMK.out HM.out hn).mono ?_
                    rw [← HV.out]
                    rintro e w1 ⟨rfl, _⟩
                    refine hK_.out _ _ inferInstance (fun _ => ?_)
                    clear hK_ K_
                    try simp only [Act.put, sA]; try simp only [sB, sC]
                    refine' takeH (i := 27) (v := _) rfl (by kernel_rfl) (by kernel_rfl) (by kernel_rfl) (fun _ _ _ h => h) (yields_of (by rfl) (fun w' _ => ?_)) inferInstance ?_
                    rotate_left
                    · (go_simp; try with_reducible rfl)
                    try simp only [Act.put, sA]; try simp only [sB, sC]
                    refine wpAnyH_done (by kernel_rfl) ?_ _
                    go_wp2_with fail
                    refine ⟨⟨j + 1, false, B, c2, nw, W, by omega, by omega, by omega, fun _ => hnk, rfl, rfl, by go_num, Lib.hid (fun h => by cases h), Lib.hid (fun _ => HF2.out), HWL, stepN, inferInstance, inferInstance, inferInstance, inferInstance, inferInstance, inferInstance⟩, by simp [intOf]; omega⟩
                · have hd : decide ((gt l j).key = hget ks k) = false := decide_eq_false hkey
                  have hsg : signsB m (hget ks k) (gt l j) = false := by rw [signsB, hd]; rfl
                  rw [hsg] at han
                  have HF2 : Hid (W = whoN m l ks k ∧ ¬ hget ks k ∈ ks.take k ∧ (l.take (j + 1)).any (signsB m (hget ks k)) = false) := Lib.hid ⟨h1, h2, han⟩
                  clear hV HT HF hnw2 h1 h2 h3 han hmem hkey hsg
                  go_wp2_with (first | ((with_reducible apply wpl_loadcellN); (exact rfl); infer_instance; (exact rfl)))
                  refine wp_region_N (nowhere) (by kernel_rfl) (fun wd _ _ => ?_)
                  refine' takeH (i := 0) (v := _) rfl (by kernel_rfl) (by kernel_rfl) (by kernel_rfl) (fun _ _ _ h => h) (yields_of (by rfl) (fun w' _ => ?_)) inferInstance ?_
                  rotate_left
                  · (go_simp; try with_reducible rfl)
                  try simp only [Act.put, sA]; try simp only [sB, sC]
                  refine' takeH (i := 1) (v := _) rfl (by kernel_rfl) (by kernel_rfl) (by kernel_rfl) (fun _ _ _ h => h) (yields_of (by rfl) (fun w' _ => ?_)) inferInstance ?_
                  rotate_left
                  · ((with_reducible apply ev_loadcellN); (exact rfl); infer_instance; infer_instance; (exact rfl))
                  try simp only [Act.put, sA]; try simp only [sB, sC]
                  refine' takeH (i := 2) (v := _) rfl (by kernel_rfl) (by kernel_rfl) (by kernel_rfl) (fun _ _ _ h => h) (yields_of (by rfl) (fun w' _ => ?_)) inferInstance ?_
                  rotate_left
                  · (go_simp; try with_reducible rfl)
                  try simp only [Act.put, sA]; try simp only [sB, sC]
                  refine' takeH (i := 3) (v := _) rfl (by kernel_rfl) (by kernel_rfl) (by kernel_rfl) (fun _ _ _ h => h) (yields_of (by rfl) (fun w' _ => ?_)) inferInstance ?_
                  rotate_left
                  · ((with_reducible apply (ev_indexE (α := MarkR) (t := 131))); (exact rfl); (exact rfl); infer_instance; infer_instance; (first | (with_reducible assumption) | omega | (focus (simp; done)) | (focus (simp; omega; done)) | decide); (exact rfl); (decide); (first | (with_reducible assumption) | omega | (focus (simp; done)) | (focus (simp; omega; done)) | decide))
                  try simp only [Act.put, sA]; try simp only [sB, sC]
                  refine' takeH (i := 4) (v := _) rfl (by kernel_rfl) (by kernel_rfl) (by kernel_rfl) (fun _ _ _ h => h) (yields_of (by rfl) (fun w' _ => ?_)) inferInstance ?_
                  rotate_left
                  · ((with_reducible apply (ev_fieldE (t := 137))); (exact Tryz.underlying137); (exact rfl); (kernel_rfl); (exact rfl); infer_instance; (exact cells_pos (by decide) (by omega)))
                  try simp only [Act.put, sA]; try simp only [sB, sC]
                  refine' takeH (i := 5) (v := _) rfl (by kernel_rfl) (by kernel_rfl) (by kernel_rfl) (fun _ _ _ h => h) (yields_of (by rfl) (fun w' _ => ?_)) inferInstance ?_
                  rotate_left
                  · ((with_reducible apply (ev_loadEPH (α := MarkR) (t := 47) (j := 0) (s := 35))); infer_instance; (exact rfl); infer_instance; (exact rfl); (first | (with_reducible assumption) | omega); (exact mark_key _))
                  try simp only [Act.put, sA]; try simp only [sB, sC]
                  refine' takeH (i := 6) (v := _) rfl (by kernel_rfl) (by kernel_rfl) (by kernel_rfl) (fun _ _ _ h => h) (yields_of (by rfl) (fun w' _ => ?_)) inferInstance ?_
                  rotate_left
                  · (go_simp; try with_reducible rfl)
                  try simp only [Act.put, sA]; try simp only [sB, sC]
                  refine' takeH (i := 7) (v := _) rfl (by kernel_rfl) (by kernel_rfl) (by kernel_rfl) (fun _ _ _ h => h) (yields_of (by rfl) (fun w' _ => ?_)) inferInstance ?_
                  rotate_left
                  · ((with_reducible apply ev_loadcellN); (exact rfl); infer_instance; infer_instance; (exact rfl))
                  try simp only [Act.put, sA]; try simp only [sB, sC]
                  refine' takeH (i := 8) (v := _) rfl (by kernel_rfl) (by kernel_rfl) (by kernel_rfl) (fun _ _ _ h => h) (yields_of (by rfl) (fun w' _ => ?_)) inferInstance ?_
                  rotate_left
                  · (go_simp; try with_reducible rfl)
                  try simp only [Act.put, sA]; try simp only [sB, sC]
                  refine' takeH (i := 9) (v := _) rfl (by kernel_rfl) (by kernel_rfl) (by kernel_rfl) (fun _ _ _ h => h) (yields_of (by rfl) (fun w' _ => ?_)) inferInstance ?_
                  rotate_left
                  · ((with_reducible apply ev_indexH'); (exact rfl); (exact rfl); infer_instance; infer_instance; (first | (with_reducible assumption) | omega); (first | (with_reducible assumption) | omega); (first | (with_reducible assumption) | omega))
                  try simp only [Act.put, sA]; try simp only [sB, sC]
                  refine' takeH (i := 10) (v := _) rfl (by kernel_rfl) (by kernel_rfl) (by kernel_rfl) (fun _ _ _ h => h) (yields_of (by rfl) (fun w' _ => ?_)) inferInstance ?_
                  rotate_left
                  · ((with_reducible apply (ev_loadhash (t := 47))); (exact rfl); infer_instance; infer_instance; (first | (with_reducible assumption) | omega))
                  try simp only [Act.put, sA]; try simp only [sB, sC]
                  refine' takeH (i := 11) (v := _) rfl (by kernel_rfl) (by kernel_rfl) (by kernel_rfl) (fun _ _ _ h => h) (yields_of (by rfl) (fun w' _ => ?_)) inferInstance ?_
                  rotate_left
                  · (go_simp; try with_reducible rfl)
                  try simp only [Act.put, sA]; try simp only [sB, sC]
                  refine' takeH (i := 12) (v := _) rfl (by kernel_rfl) (by kernel_rfl) (by kernel_rfl) (fun _ _ _ h => h) (yields_of (by rfl) (fun w' _ => ?_)) inferInstance ?_
                  rotate_left
                  · (go_simp; try with_reducible rfl)
                  try simp only [Act.put, sA]; try simp only [sB, sC]
                  refine takeH (i := 13) (v := undef) rfl (by kernel_rfl) (by kernel_rfl) (by kernel_rfl) (fun _ _ _ h => h) (Or.inr ⟨by rfl, rfl⟩) inferInstance ?_
                  try simp only [Act.put, sA]; try simp only [sB, sC]
                  refine takeH (i := 14) (v := undef) rfl (by kernel_rfl) (by kernel_rfl) (by kernel_rfl) (fun _ _ _ h => h) (Or.inr ⟨by rfl, rfl⟩) inferInstance ?_
                  try simp only [Act.put, sA]; try simp only [sB, sC]
                  refine takeH (i := 15) (v := undef) rfl (by kernel_rfl) (by kernel_rfl) (by kernel_rfl) (fun _ _ _ h => h) (Or.inr ⟨by rfl, rfl⟩) inferInstance ?_
                  try simp only [Act.put, sA]; try simp only [sB, sC]
                  refine takeH (i := 16) (v := undef) rfl (by kernel_rfl) (by kernel_rfl) (by kernel_rfl) (fun _ _ _ h => h) (Or.inr ⟨by rfl, rfl⟩) inferInstance ?_
                  try simp only [Act.put, sA]; try simp only [sB, sC]
                  refine takeH (i := 17) (v := undef) rfl (by kernel_rfl) (by kernel_rfl) (by kernel_rfl) (fun _ _ _ h => h) (Or.inr ⟨by rfl, rfl⟩) inferInstance ?_
                  try simp only [Act.put, sA]; try simp only [sB, sC]
                  refine takeH (i := 18) (v := undef) rfl (by kernel_rfl) (by kernel_rfl) (by kernel_rfl) (fun _ _ _ h => h) (Or.inr ⟨by rfl, rfl⟩) inferInstance ?_
                  try simp only [Act.put, sA]; try simp only [sB, sC]
                  refine takeH (i := 19) (v := undef) rfl (by kernel_rfl) (by kernel_rfl) (by kernel_rfl) (fun _ _ _ h => h) (Or.inr ⟨by rfl, rfl⟩) inferInstance ?_
                  try simp only [Act.put, sA]; try simp only [sB, sC]
                  refine takeH (i := 20) (v := undef) rfl (by kernel_rfl) (by kernel_rfl) (by kernel_rfl) (fun _ _ _ h => h) (Or.inr ⟨by rfl, rfl⟩) inferInstance ?_
                  try simp only [Act.put, sA]; try simp only [sB, sC]
                  refine takeH (i := 21) (v := undef) rfl (by kernel_rfl) (by kernel_rfl) (by kernel_rfl) (fun _ _ _ h => h) (Or.inr ⟨by rfl, rfl⟩) inferInstance ?_
                  try simp only [Act.put, sA]; try simp only [sB, sC]
                  refine takeH (i := 22) (v := undef) rfl (by kernel_rfl) (by kernel_rfl) (by kernel_rfl) (fun _ _ _ h => h) (Or.inr ⟨by rfl, rfl⟩) inferInstance ?_
                  try simp only [Act.put, sA]; try simp only [sB, sC]
                  refine takeH (i := 23) (v := undef) rfl (by kernel_rfl) (by kernel_rfl) (by kernel_rfl) (fun _ _ _ h => h) (Or.inr ⟨by rfl, rfl⟩) inferInstance ?_
                  try simp only [Act.put, sA]; try simp only [sB, sC]
                  refine takeH (i := 24) (v := undef) rfl (by kernel_rfl) (by kernel_rfl) (by kernel_rfl) (fun _ _ _ h => h) (Or.inr ⟨by rfl, rfl⟩) inferInstance ?_
                  try simp only [Act.put, sA]; try simp only [sB, sC]
                  refine takeH (i := 25) (v := undef) rfl (by kernel_rfl) (by kernel_rfl) (by kernel_rfl) (fun _ _ _ h => h) (Or.inr ⟨by rfl, rfl⟩) inferInstance ?_
                  try simp only [Act.put, sA]; try simp only [sB, sC]
                  refine takeH (i := 26) (v := undef) rfl (by kernel_rfl) (by kernel_rfl) (by kernel_rfl) (fun _ _ _ h => h) (Or.inr ⟨by rfl, rfl⟩) inferInstance ?_
                  try simp only [Act.put, sA]; try simp only [sB, sC]
                  refine' takeH (i := 27) (v := _) rfl (by kernel_rfl) (by kernel_rfl) (by kernel_rfl) (fun _ _ _ h => h) (yields_of (by rfl) (fun w' _ => ?_)) inferInstance ?_
                  rotate_left
                  · (go_simp; try with_reducible rfl)
                  try simp only [Act.put, sA]; try simp only [sB, sC]
                  refine wpAnyH_done (by kernel_rfl) ?_ _
                  go_wp2_with fail
                  refine ⟨⟨j + 1, false, B, c2, nw, W, by omega, by omega, by omega, fun _ => hnk, rfl, rfl, by go_num, Lib.hid (fun h => by cases h), Lib.hid (fun _ => HF2.out), HWL, stepN, inferInstance, inferInstance, inferInstance, inferInstance, inferInstance, inferInstance⟩, by simp [intOf]; omega⟩
              · have HW2 : Hid (W = whoN m l ks (k + 1)) := Lib.hid (by
                  obtain ⟨h1, h2, h3⟩ := HF.out rfl
                  have h4 := HL.out
                  rw [whoN_out m l ks k h2 (any_end m l _ j (by omega) (by omega) hj4 h3)]
                  exact h1)
                clear HT HF hnw2
                by_cases hjy : j < n
                · have e1 : (j : Int) < n := by omega
                  have e2 : ¬ (j : Int) < 4 := by omega
                  go_wp2_with (first | ((with_reducible apply wpl_loadcellN); (exact rfl); infer_instance; (exact rfl)))
                  exact ⟨⟨k + 1, B, c2, nw, W, by omega, by omega, by go_num, rfl, HW2, HWL, stepN, inferInstance, inferInstance, inferInstance, inferInstance, inferInstance, inferInstance⟩, by simp [intOf]; omega⟩
                · have e1 : ¬ (j : Int) < n := by omega
                  go_wp2_with (first | ((with_reducible apply wpl_loadcellN); (exact rfl); infer_instance; (exact rfl)))
                  exact ⟨⟨k + 1, B, c2, nw, W, by omega, by omega, by go_num, rfl, HW2, HWL, stepN, inferInstance, inferInstance, inferInstance, inferInstance, inferInstance, inferInstance⟩, by simp [intOf]; omega⟩
    · have hltI : ¬ (k : Int) < nk := by omega
      have hkn2 : k = nk := by omega
      have HWW : Hid (W = whoN m l ks nk) := Lib.hid (by rw [← hkn2]; exact HW.out)
      clear hkn2
      go_wp2_with (first | ((with_reducible apply wpl_loadcellN); (exact rfl); infer_instance; (exact rfl)))
      go_ret
      rw [← HWW.out]
      exact ⟨B, nw, c2, rfl, HWL.out, inferInstance, stepN⟩
end Go.Proofs.YthcleccofccbdaaGreat
