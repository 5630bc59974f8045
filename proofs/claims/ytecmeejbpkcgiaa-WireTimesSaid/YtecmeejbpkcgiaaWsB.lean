/- EncodeSnap of a snapshot without pins. -/
import Derived.Test.YtecmeejbpkcgiaaWsA
open Go Go.RowKit
namespace Go.Proofs.Ytecmeejbpkcgiaa
theorem run_int2 (a b : Int) (w : World) : (Instr.buildSlice 171 2 #[(0, .int .i64 a), (1, .int .i64 b)]).run Try.prog w = .ok (.slice (some ⟨w.heap.size, 0, none⟩) 2 2) (w.alloc (.cells #[.int .i64 a, .int .i64 b] 3)) := by kernel_rfl
set_option maxRecDepth 100000 in
theorem pinList0 (f : FuncId) (w : World) :
    Calls Try.prog 128 #[.slice none 0 0, .func (.func f) #[] #[]] w fun e w' => ∃ f caps T, e = .returned (.func (.func f) #[] caps) ∧ Step nowhere w w' ∧ Lays w' T (.func (.func f) #[] caps) (encAll [0]) ∧ ∀ x, T x → w.heap.size ≤ x := by
  have kb0 := run_int1 0
  go_enter Try.func128, Try.ntmps128
  go_wp2_with (first | ((with_reducible apply (stop_dst (dst := some 7))); (try simp only [Act.put, List.setIfInBounds_toArray, List.set_cons_succ, List.set_cons_zero]); ((with_reducible apply (wpl_bslice (dst := some 7))); (exact kb0 _); intro zb wb _ _ _)))
  refine (numsC (z := zb) (vs := [0]) rfl rfl (show 9 * 1 ≤ 1000000000 by decide)).mono ?_
  rintro e w5 ⟨f5, caps5, T5, rfl, _, hL5, hT5⟩
  have hzb : w.heap.size ≤ zb := (NewA.monoS (w0 := w) (NewA.of_born (z := zb) 0)).out ⟨zb, 0, none⟩ rfl
  go_wp2_with (first | fail)
  refine (pinEach0 f _).mono ?_
  rintro e w6 ⟨f6, caps6, T6, rfl, _, hL6, hT6⟩
  have kb2 := run_fld2 f5 f6 caps5 caps6
  go_wp2_with (first | ((with_reducible apply (stop_dst (dst := some 12))); (try simp only [Act.put, List.setIfInBounds_toArray, List.set_cons_succ, List.set_cons_zero]); ((with_reducible apply (wpl_bslice (dst := some 12))); (exact kb2 _); intro zc wb _ _ _)))
  refine (fields2 (z := zc) (hL5.later (stepN (w0 := w5)).chg (fun _ _ h => h)) (hL6.later (stepN (w0 := w6)).chg (fun _ _ h => h))).mono ?_
  rintro e w7 ⟨f7, caps7, T7, rfl, _, hL7, hT7⟩
  rw [List.append_nil] at hL7
  have hzc : w.heap.size ≤ zc := (NewA.monoS (w0 := w) (NewA.of_born (z := zc) 0)).out ⟨zc, 0, none⟩ rfl
  go_wp2_with fail
  go_ret
  refine ⟨f7, caps7, T7, rfl, stepN, hL7, fun x hx => ?_⟩
  rcases hT7 x hx with h | rfl | h | h
  · exact Nat.le_trans (stepN (w0 := w)).chg.size h
  · exact hzc
  · rcases hT5 x h with h | rfl
    · exact Nat.le_trans (stepN (w0 := w)).chg.size h
    · exact hzb
  · exact Nat.le_trans (stepN (w0 := w)).chg.size (hT6 x h)
set_option maxRecDepth 100000 in
set_option maxHeartbeats 800000 in
theorem laySnap0_calls (v e0 : Int) (w : World) :
    Calls Try.prog 76 #[.agg #[.int .i64 v, .int .i64 e0, .slice none 0 0]] w fun e w' => ∃ f caps T, e = .returned (.func (.func f) #[] caps) ∧ Step nowhere w w' ∧ Lays w' T (.func (.func f) #[] caps) (encAll [v, e0] ++ encAll [0]) ∧ ∀ x, T x → w.heap.size ≤ x := by
  go_enter Try.func76, Try.ntmps76
  go_wp2_with (first | ((with_reducible apply (wpl_box_agg (dst := some 1))); (exact rfl); intro zt wzt _ _ _) | ((with_reducible apply (wpl_box_int (dst := some 1))); (exact rfl); intro zt wzt _ _ _) | ((with_reducible apply (wpl_box_slice (dst := some 1))); (exact rfl); intro zt wzt _ _ _) | ((with_reducible apply (wpl_box_str (dst := some 1))); (exact rfl); intro zt wzt _ _ _) | ((with_reducible apply (wpl_box_bool (dst := some 1))); (exact rfl); intro zt wzt _ _ _) | ((with_reducible apply (wpl_box_ptr (dst := some 1))); (exact rfl); intro zt wzt _ _ _) | ((with_reducible apply wpl_box_agg); (exact rfl); intro z wz _ _ _) | ((with_reducible apply wpl_box_int); (exact rfl); intro z wz _ _ _) | ((with_reducible apply wpl_box_slice); (exact rfl); intro z wz _ _ _) | ((with_reducible apply wpl_box_str); (exact rfl); intro z wz _ _ _) | ((with_reducible apply wpl_box_bool); (exact rfl); intro z wz _ _ _) | ((with_reducible apply wpl_box_ptr); (exact rfl); intro z wz _ _ _) | ((with_reducible apply wpl_loadrow); (exact rfl); (exact inferInstance); (exact inferInstance); (first | (with_reducible assumption) | (with_reducible exact H32.size _) | kernel_rfl)) | ((with_reducible apply wpl_loadcellN); (exact rfl); (exact inferInstance); (exact rfl)))
  have hwz := (stepN (w0 := w) (w := wzt)).chg.size
  refine wp_region_N (nowhere) (by kernel_rfl) (fun wd _ _ => ?_)
  refine' takeH (i := 0) (v := _) rfl (by kernel_rfl) (by kernel_rfl) (by kernel_rfl) (fun _ _ _ h => h) (yields_of (by rfl) (fun w' _ => ?_)) inferInstance ?_
  rotate_left
  · (go_simp; try with_reducible rfl)
  try simp only [Act.put, List.setIfInBounds_toArray]; try simp only [List.set_cons_succ, List.set_cons_zero]
  refine' takeH (i := 1) (v := _) rfl (by kernel_rfl) (by kernel_rfl) (by kernel_rfl) (fun _ _ _ h => h) (yields_of (by rfl) (fun w' _ => ?_)) inferInstance ?_
  rotate_left
  · (first | ((with_reducible apply ev_loadrow); (exact rfl); (exact inferInstance); (exact inferInstance); (first | (with_reducible assumption) | (with_reducible exact H32.size _) | kernel_rfl)) | ((with_reducible apply (ev_loadhash (t := 43))); (exact rfl); (exact inferInstance); (exact inferInstance); (first | (with_reducible assumption) | omega)) | ((with_reducible apply ev_loadcellN); (exact rfl); (exact inferInstance); (exact inferInstance); (exact rfl)) | ((with_reducible apply (ev_loadint (t := 3))); (exact rfl); (exact inferInstance); (exact inferInstance); (first | (with_reducible assumption) | omega)) | ((with_reducible apply (ev_loadbyte (t := 5))); (exact rfl); (exact inferInstance); (exact inferInstance); (first | (with_reducible assumption) | omega)) | (go_simp; try with_reducible rfl))
  try simp only [Act.put, List.setIfInBounds_toArray]; try simp only [List.set_cons_succ, List.set_cons_zero]
  refine' takeH (i := 2) (v := _) rfl (by kernel_rfl) (by kernel_rfl) (by kernel_rfl) (fun _ _ _ h => h) (yields_of (by rfl) (fun w' _ => ?_)) inferInstance ?_
  rotate_left
  · (go_simp; try with_reducible rfl)
  try simp only [Act.put, List.setIfInBounds_toArray]; try simp only [List.set_cons_succ, List.set_cons_zero]
  refine' takeH (i := 3) (v := _) rfl (by kernel_rfl) (by kernel_rfl) (by kernel_rfl) (fun _ _ _ h => h) (yields_of (by rfl) (fun w' _ => ?_)) inferInstance ?_
  rotate_left
  · (first | ((with_reducible apply ev_loadrow); (exact rfl); (exact inferInstance); (exact inferInstance); (first | (with_reducible assumption) | (with_reducible exact H32.size _) | kernel_rfl)) | ((with_reducible apply (ev_loadhash (t := 43))); (exact rfl); (exact inferInstance); (exact inferInstance); (first | (with_reducible assumption) | omega)) | ((with_reducible apply ev_loadcellN); (exact rfl); (exact inferInstance); (exact inferInstance); (exact rfl)) | ((with_reducible apply (ev_loadint (t := 3))); (exact rfl); (exact inferInstance); (exact inferInstance); (first | (with_reducible assumption) | omega)) | ((with_reducible apply (ev_loadbyte (t := 5))); (exact rfl); (exact inferInstance); (exact inferInstance); (first | (with_reducible assumption) | omega)) | (go_simp; try with_reducible rfl))
  try simp only [Act.put, List.setIfInBounds_toArray]; try simp only [List.set_cons_succ, List.set_cons_zero]
  refine' takeH (i := 6) (v := _) rfl (by kernel_rfl) (by kernel_rfl) (by kernel_rfl) (fun _ _ _ h => h) (yields_of (by rfl) (fun w' _ => ?_)) inferInstance ?_
  rotate_left
  · (go_simp; try with_reducible rfl)
  try simp only [Act.put, List.setIfInBounds_toArray]; try simp only [List.set_cons_succ, List.set_cons_zero]
  refine' takeH (i := 7) (v := _) rfl (by kernel_rfl) (by kernel_rfl) (by kernel_rfl) (fun _ _ _ h => h) (yields_of (by rfl) (fun w' _ => ?_)) inferInstance ?_
  rotate_left
  · (first | ((with_reducible apply ev_loadrow); (exact rfl); (exact inferInstance); (exact inferInstance); (first | (with_reducible assumption) | (with_reducible exact H32.size _) | kernel_rfl)) | ((with_reducible apply (ev_loadhash (t := 43))); (exact rfl); (exact inferInstance); (exact inferInstance); (first | (with_reducible assumption) | omega)) | ((with_reducible apply ev_loadcellN); (exact rfl); (exact inferInstance); (exact inferInstance); (exact rfl)) | ((with_reducible apply (ev_loadint (t := 3))); (exact rfl); (exact inferInstance); (exact inferInstance); (first | (with_reducible assumption) | omega)) | ((with_reducible apply (ev_loadbyte (t := 5))); (exact rfl); (exact inferInstance); (exact inferInstance); (first | (with_reducible assumption) | omega)) | (go_simp; try with_reducible rfl))
  try simp only [Act.put, List.setIfInBounds_toArray]; try simp only [List.set_cons_succ, List.set_cons_zero]
  refine goH (i := 4) (by kernel_rfl) rfl (fun K_ hK_ => ?_)
  rw [if_pos (by kernel_rfl)]
  refine wpr_of_list ?_
  (first | ((with_reducible apply (stop_dst (dst := some 7))); (try simp only [Act.put, List.setIfInBounds_toArray, List.set_cons_succ, List.set_cons_zero]); ((with_reducible apply (wpl_bslice (dst := some 7))); (exact run_int2 _ _ _); intro zb wb _ _ _)) | ((with_reducible apply (stop_dst (dst := some 12))); (try simp only [Act.put, List.setIfInBounds_toArray, List.set_cons_succ, List.set_cons_zero]); ((with_reducible apply (wpl_bslice (dst := some 12))); (exact run_fld2 _ _ _ _ _); intro zc wb _ _ _)))
  refine wpList_nil ?_
  unfold onlyN
  refine hK_.out _ _ inferInstance (fun _ => ?_)
  clear hK_ K_
  try simp only [Act.put, List.setIfInBounds_toArray]; try simp only [List.set_cons_succ, List.set_cons_zero]
  refine goH (i := 5) (by kernel_rfl) rfl (fun K_ hK_ => ?_)
  go_simp
  refine (numsC (z := zb) (vs := [v, e0]) rfl rfl (show 9 * 2 ≤ 1000000000 by decide)).mono ?_
  rintro e w5 ⟨f5, caps5, T5, rfl, _, hL5, hT5⟩
  have hzb : w.heap.size ≤ zb := (NewA.monoS (w0 := w) (NewA.of_born (z := zb) 0)).out ⟨zb, 0, none⟩ rfl
  refine hK_.out _ _ inferInstance (fun _ => ?_)
  clear hK_ K_
  try simp only [Act.put, List.setIfInBounds_toArray]; try simp only [List.set_cons_succ, List.set_cons_zero]
  refine goH (i := 8) (by kernel_rfl) rfl (fun K_ hK_ => ?_)
  go_simp
  refine (pinList0 _ _).mono ?_
  rintro e w6 ⟨f6, caps6, T6, rfl, _, hL6, hT6⟩
  refine hK_.out _ _ inferInstance (fun _ => ?_)
  clear hK_ K_
  try simp only [Act.put, List.setIfInBounds_toArray]; try simp only [List.set_cons_succ, List.set_cons_zero]
  refine goH (i := 9) (by kernel_rfl) rfl (fun K_ hK_ => ?_)
  rw [if_pos (by kernel_rfl)]
  refine wpr_of_list ?_
  (first | ((with_reducible apply (stop_dst (dst := some 7))); (try simp only [Act.put, List.setIfInBounds_toArray, List.set_cons_succ, List.set_cons_zero]); ((with_reducible apply (wpl_bslice (dst := some 7))); (exact run_int2 _ _ _); intro zb wb _ _ _)) | ((with_reducible apply (stop_dst (dst := some 12))); (try simp only [Act.put, List.setIfInBounds_toArray, List.set_cons_succ, List.set_cons_zero]); ((with_reducible apply (wpl_bslice (dst := some 12))); (exact run_fld2 _ _ _ _ _); intro zc wb _ _ _)))
  refine wpList_nil ?_
  unfold onlyN
  refine hK_.out _ _ inferInstance (fun _ => ?_)
  clear hK_ K_
  try simp only [Act.put, List.setIfInBounds_toArray]; try simp only [List.set_cons_succ, List.set_cons_zero]
  refine goH (i := 10) (by kernel_rfl) rfl (fun K_ hK_ => ?_)
  go_simp
  refine (fields2 (z := zc) (hL5.later (stepN (w0 := w5)).chg (fun _ _ h => h)) (hL6.later (stepN (w0 := w6)).chg (fun _ _ h => h))).mono ?_
  rintro e w7 ⟨f7, caps7, T7, rfl, _, hL7, hT7⟩
  have hzc : w.heap.size ≤ zc := (NewA.monoS (w0 := w) (NewA.of_born (z := zc) 0)).out ⟨zc, 0, none⟩ rfl
  refine hK_.out _ _ inferInstance (fun _ => ?_)
  clear hK_ K_
  try simp only [Act.put, List.setIfInBounds_toArray]; try simp only [List.set_cons_succ, List.set_cons_zero]
  refine' takeH (i := 11) (v := _) rfl (by kernel_rfl) (by kernel_rfl) (by kernel_rfl) (fun _ _ _ h => h) (yields_of (by rfl) (fun w' _ => ?_)) inferInstance ?_
  rotate_left
  · (go_simp; try with_reducible rfl)
  try simp only [Act.put, List.setIfInBounds_toArray]; try simp only [List.set_cons_succ, List.set_cons_zero]
  refine wpAnyH_done (by kernel_rfl) ?_ _
  go_wp2_with fail
  go_ret
  refine ⟨f7, caps7, T7, rfl, stepN, hL7, fun x hx => ?_⟩
  rcases hT7 x hx with h | rfl | h | h
  · exact Nat.le_trans (stepN (w0 := w)).chg.size h
  · exact hzc
  · rcases hT5 x h with h | rfl
    · exact Nat.le_trans (stepN (w0 := w)).chg.size h
    · exact hzb
  · exact Nat.le_trans (stepN (w0 := w)).chg.size (hT6 x h)
set_option maxRecDepth 100000 in
set_option maxHeartbeats 800000 in
theorem encSnap0_calls (v e0 : Int) (w : World) :
    Calls Try.prog 74 #[.int .i64 3, .agg #[.int .i64 v, .int .i64 e0, .slice none 0 0], .func (.func 75) #[] #[], .func (.func 76) #[] #[]] w (EncPost (snapB v e0) (encAll [3] ++ (encAll [v, e0] ++ encAll [0])) w) := by
  unfold EncPost
  rcases hb : snapB v e0 with _ | _
  · go_enter Try.func74, Try.ntmps74
    go_wp2_with (first | ((with_reducible apply (wpl_alloc (dst := some 5))); intro zt wzt _ _ _) | ((with_reducible apply (wpl_box_agg (dst := some 5))); (exact rfl); intro zt wzt _ _ _) | ((with_reducible apply (wpl_box_int (dst := some 5))); (exact rfl); intro zt wzt _ _ _) | ((with_reducible apply (wpl_box_slice (dst := some 5))); (exact rfl); intro zt wzt _ _ _) | ((with_reducible apply (wpl_box_str (dst := some 5))); (exact rfl); intro zt wzt _ _ _) | ((with_reducible apply (wpl_box_bool (dst := some 5))); (exact rfl); intro zt wzt _ _ _) | ((with_reducible apply (wpl_box_ptr (dst := some 5))); (exact rfl); intro zt wzt _ _ _) | ((with_reducible apply wpl_alloc); intro z wz _ _ _) | ((with_reducible apply wpl_box_agg); (exact rfl); intro z wz _ _ _) | ((with_reducible apply wpl_box_int); (exact rfl); intro z wz _ _ _) | ((with_reducible apply wpl_box_slice); (exact rfl); intro z wz _ _ _) | ((with_reducible apply wpl_box_str); (exact rfl); intro z wz _ _ _) | ((with_reducible apply wpl_box_bool); (exact rfl); intro z wz _ _ _) | ((with_reducible apply wpl_box_ptr); (exact rfl); intro z wz _ _ _) | ((with_reducible apply wpl_loadrow); (exact rfl); (exact inferInstance); (exact inferInstance); (first | (with_reducible assumption) | (with_reducible exact H32.size _) | kernel_rfl)) | ((with_reducible apply wpl_loadcellN); (exact rfl); (exact inferInstance); (exact rfl)))
    refine (isSnap0_calls v e0 _).mono ?_
    rw [hb]
    rintro e w5 ⟨rfl, _⟩
    go_wp2_with (first | ((with_reducible apply wpl_alloc); intro z wz _ _ _) | ((with_reducible apply wpl_box_agg); (exact rfl); intro z wz _ _ _) | ((with_reducible apply wpl_box_int); (exact rfl); intro z wz _ _ _) | ((with_reducible apply wpl_box_slice); (exact rfl); intro z wz _ _ _) | ((with_reducible apply wpl_box_str); (exact rfl); intro z wz _ _ _) | ((with_reducible apply wpl_box_bool); (exact rfl); intro z wz _ _ _) | ((with_reducible apply wpl_box_ptr); (exact rfl); intro z wz _ _ _) | ((with_reducible apply wpl_loadrow); (exact rfl); (exact inferInstance); (exact inferInstance); (first | (with_reducible assumption) | (with_reducible exact H32.size _) | kernel_rfl)) | ((with_reducible apply wpl_loadcellN); (exact rfl); (exact inferInstance); (exact rfl)))
    go_ret2
    exact ⟨stepN, rfl⟩
  · go_enter Try.func74, Try.ntmps74
    go_wp2_with (first | ((with_reducible apply (wpl_alloc (dst := some 5))); intro zt wzt _ _ _) | ((with_reducible apply (wpl_box_agg (dst := some 5))); (exact rfl); intro zt wzt _ _ _) | ((with_reducible apply (wpl_box_int (dst := some 5))); (exact rfl); intro zt wzt _ _ _) | ((with_reducible apply (wpl_box_slice (dst := some 5))); (exact rfl); intro zt wzt _ _ _) | ((with_reducible apply (wpl_box_str (dst := some 5))); (exact rfl); intro zt wzt _ _ _) | ((with_reducible apply (wpl_box_bool (dst := some 5))); (exact rfl); intro zt wzt _ _ _) | ((with_reducible apply (wpl_box_ptr (dst := some 5))); (exact rfl); intro zt wzt _ _ _) | ((with_reducible apply wpl_alloc); intro z wz _ _ _) | ((with_reducible apply wpl_box_agg); (exact rfl); intro z wz _ _ _) | ((with_reducible apply wpl_box_int); (exact rfl); intro z wz _ _ _) | ((with_reducible apply wpl_box_slice); (exact rfl); intro z wz _ _ _) | ((with_reducible apply wpl_box_str); (exact rfl); intro z wz _ _ _) | ((with_reducible apply wpl_box_bool); (exact rfl); intro z wz _ _ _) | ((with_reducible apply wpl_box_ptr); (exact rfl); intro z wz _ _ _) | ((with_reducible apply wpl_loadrow); (exact rfl); (exact inferInstance); (exact inferInstance); (first | (with_reducible assumption) | (with_reducible exact H32.size _) | kernel_rfl)) | ((with_reducible apply wpl_loadcellN); (exact rfl); (exact inferInstance); (exact rfl)))
    refine (isSnap0_calls v e0 _).mono ?_
    rw [hb]
    rintro e w5 ⟨rfl, _⟩
    go_wp2_with (first | ((with_reducible apply (wpl_alloc (dst := some 10))); intro zw wzw _ _ _) | ((with_reducible apply (wpl_box_agg (dst := some 10))); (exact rfl); intro zw wzw _ _ _) | ((with_reducible apply (wpl_box_int (dst := some 10))); (exact rfl); intro zw wzw _ _ _) | ((with_reducible apply (wpl_box_slice (dst := some 10))); (exact rfl); intro zw wzw _ _ _) | ((with_reducible apply (wpl_box_str (dst := some 10))); (exact rfl); intro zw wzw _ _ _) | ((with_reducible apply (wpl_box_bool (dst := some 10))); (exact rfl); intro zw wzw _ _ _) | ((with_reducible apply (wpl_box_ptr (dst := some 10))); (exact rfl); intro zw wzw _ _ _) | ((with_reducible apply wpl_alloc); intro z wz _ _ _) | ((with_reducible apply wpl_box_agg); (exact rfl); intro z wz _ _ _) | ((with_reducible apply wpl_box_int); (exact rfl); intro z wz _ _ _) | ((with_reducible apply wpl_box_slice); (exact rfl); intro z wz _ _ _) | ((with_reducible apply wpl_box_str); (exact rfl); intro z wz _ _ _) | ((with_reducible apply wpl_box_bool); (exact rfl); intro z wz _ _ _) | ((with_reducible apply wpl_box_ptr); (exact rfl); intro z wz _ _ _) | ((with_reducible apply wpl_loadrow); (exact rfl); (exact inferInstance); (exact inferInstance); (first | (with_reducible assumption) | (with_reducible exact H32.size _) | kernel_rfl)) | ((with_reducible apply wpl_loadcellN); (exact rfl); (exact inferInstance); (exact rfl)))
    have hzw := (inferInstance : HB wzw zw 162 #[.slice none 0 0]).out.lt
    have n9 : Nw w wzw := inferInstance
    refine wp_region_N ((only zw)) (by kernel_rfl) (fun wd _ _ => ?_)
    refine' takeH (i := 0) (v := _) rfl (by kernel_rfl) (by kernel_rfl) (by kernel_rfl) (fun _ _ _ h => h) (yields_of (by rfl) (fun w' _ => ?_)) inferInstance ?_
    rotate_left
    · (go_simp; try with_reducible rfl)
    try simp only [Act.put, List.setIfInBounds_toArray]; try simp only [List.set_cons_succ, List.set_cons_zero]
    refine' takeH (i := 3) (v := _) rfl (by kernel_rfl) (by kernel_rfl) (by kernel_rfl) (fun _ _ _ h => h) (yields_of (by rfl) (fun w' _ => ?_)) inferInstance ?_
    rotate_left
    · (go_simp; try with_reducible rfl)
    try simp only [Act.put, List.setIfInBounds_toArray]; try simp only [List.set_cons_succ, List.set_cons_zero]
    refine' takeH (i := 4) (v := _) rfl (by kernel_rfl) (by kernel_rfl) (by kernel_rfl) (fun _ _ _ h => h) (yields_of (by rfl) (fun w' _ => ?_)) inferInstance ?_
    rotate_left
    · (first | ((with_reducible apply ev_loadrow); (exact rfl); (exact inferInstance); (exact inferInstance); (first | (with_reducible assumption) | (with_reducible exact H32.size _) | kernel_rfl)) | ((with_reducible apply (ev_loadhash (t := 43))); (exact rfl); (exact inferInstance); (exact inferInstance); (first | (with_reducible assumption) | omega)) | ((with_reducible apply ev_loadcellN); (exact rfl); (exact inferInstance); (exact inferInstance); (exact rfl)) | ((with_reducible apply (ev_loadint (t := 3))); (exact rfl); (exact inferInstance); (exact inferInstance); (first | (with_reducible assumption) | omega)) | ((with_reducible apply (ev_loadbyte (t := 5))); (exact rfl); (exact inferInstance); (exact inferInstance); (first | (with_reducible assumption) | omega)) | (go_simp; try with_reducible rfl))
    try simp only [Act.put, List.setIfInBounds_toArray]; try simp only [List.set_cons_succ, List.set_cons_zero]
    refine goH (i := 1) (by kernel_rfl) rfl (fun K_ hK_ => ?_)
    rw [if_pos (by kernel_rfl)]
    refine wpr_of_list ?_
    (first | ((with_reducible apply (stop_dst (dst := some 16))); (try simp only [Act.put, List.setIfInBounds_toArray, List.set_cons_succ, List.set_cons_zero]); ((with_reducible apply (wpl_bslice (dst := some 16))); (exact run_int1 _ _); intro zb wb _ _ _)) | ((with_reducible apply (stop_dst (dst := some 21))); (try simp only [Act.put, List.setIfInBounds_toArray, List.set_cons_succ, List.set_cons_zero]); ((with_reducible apply (wpl_bslice (dst := some 21))); (exact run_fld2 _ _ _ _ _); intro zc wb _ _ _)))
    refine wpList_nil ?_
    unfold onlyN
    refine hK_.out _ _ inferInstance (fun _ => ?_)
    clear hK_ K_
    try simp only [Act.put, List.setIfInBounds_toArray]; try simp only [List.set_cons_succ, List.set_cons_zero]
    refine goH (i := 2) (by kernel_rfl) rfl (fun K_ hK_ => ?_)
    go_simp
    refine (numsC (z := zb) (vs := [3]) rfl rfl (show 9 * 1 ≤ 1000000000 by decide)).mono ?_
    rintro e w6 ⟨f6, caps6, T6, rfl, _, hL6, hT6⟩
    have hzb : wzw.heap.size ≤ zb := (NewA.monoS (w0 := wzw) (NewA.of_born (z := zb) 0)).out ⟨zb, 0, none⟩ rfl
    refine hK_.out _ _ inferInstance (fun _ => ?_)
    clear hK_ K_
    try simp only [Act.put, List.setIfInBounds_toArray]; try simp only [List.set_cons_succ, List.set_cons_zero]
    refine goH (i := 5) (by kernel_rfl) rfl (fun K_ hK_ => ?_)
    go_simp
    refine (laySnap0_calls v e0 _).mono ?_
    rintro e w7 ⟨f7, caps7, T7, rfl, _, hL7, hT7⟩
    refine hK_.out _ _ inferInstance (fun _ => ?_)
    clear hK_ K_
    try simp only [Act.put, List.setIfInBounds_toArray]; try simp only [List.set_cons_succ, List.set_cons_zero]
    refine goH (i := 6) (by kernel_rfl) rfl (fun K_ hK_ => ?_)
    rw [if_pos (by kernel_rfl)]
    refine wpr_of_list ?_
    (first | ((with_reducible apply (stop_dst (dst := some 16))); (try simp only [Act.put, List.setIfInBounds_toArray, List.set_cons_succ, List.set_cons_zero]); ((with_reducible apply (wpl_bslice (dst := some 16))); (exact run_int1 _ _); intro zb wb _ _ _)) | ((with_reducible apply (stop_dst (dst := some 21))); (try simp only [Act.put, List.setIfInBounds_toArray, List.set_cons_succ, List.set_cons_zero]); ((with_reducible apply (wpl_bslice (dst := some 21))); (exact run_fld2 _ _ _ _ _); intro zc wb _ _ _)))
    refine wpList_nil ?_
    unfold onlyN
    refine hK_.out _ _ inferInstance (fun _ => ?_)
    clear hK_ K_
    try simp only [Act.put, List.setIfInBounds_toArray]; try simp only [List.set_cons_succ, List.set_cons_zero]
    refine goH (i := 7) (by kernel_rfl) rfl (fun K_ hK_ => ?_)
    go_simp
    refine (fields2 (z := zc) (hL6.later (stepN (w0 := w6)).chg (fun _ _ h => h)) (hL7.later (stepN (w0 := w7)).chg (fun _ _ h => h))).mono ?_
    rintro e w8 ⟨f8, caps8, T8, rfl, _, hL8, hT8⟩
    have hzc : wzw.heap.size ≤ zc := (NewA.monoS (w0 := wzw) (NewA.of_born (z := zc) 0)).out ⟨zc, 0, none⟩ rfl
    obtain ⟨f9, caps9, he9, hent, hrun⟩ := hL8.run
    injection he9 with e1 _ e2
    injection e1 with e1
    subst e1 e2
    have hw8 : WrAt w8 zw none [] := ⟨⟨0, 0, rfl, (inferInstance : HB w8 zw 162 #[.slice none 0 0]).out, Own.nil _ _ _⟩, fun ad h => by cases h⟩
    have hT : ∀ x, Wf zw none x → ¬ T8 x := by
      rintro x (rfl | ⟨ad, e, _⟩) hx
      · rcases hT8 _ hx with h | h | h | h
        · have := Nat.le_trans (stepN (w0 := wzw)).chg.size h; omega
        · omega
        · rcases hT6 _ h with h | h
          · have := Nat.le_trans (stepN (w0 := wzw)).chg.size h; omega
          · omega
        · have := Nat.le_trans (stepN (w0 := wzw)).chg.size (hT7 _ h); omega
      · cases e
    have hlen2 : ([] : List UInt8).length + (encAll [3] ++ (encAll [v, e0] ++ encAll [0])).length ≤ 1000000000 := by
      have a1 := encAll_len [3]
      have a2 := encAll_len [v, e0]
      have a3 := encAll_len [0]
      simp only [List.length_append, List.length_cons, List.length_nil] at *
      omega
    have HRUN := Lib.hid (hrun w8 zw none [] (Chg.refl _ _) hw8 hT hlen2)
    clear hrun
    refine hK_.out _ _ inferInstance (fun _ => ?_)
    clear hK_ K_
    try simp only [Act.put, List.setIfInBounds_toArray]; try simp only [List.set_cons_succ, List.set_cons_zero]
    refine goH (i := 8) (by kernel_rfl) rfl (fun K_ hK_ => ?_)
    go_simp
    refine HRUN.out.mono ?_
    rintro e w9 ⟨rfl, A9, hW9, hC9, hM9⟩
    have st9 : Step (only zw) w8 w9 := ⟨hC9.mono (fun x _ hx => by
      rcases hx with h | ⟨ad, e, _⟩
      · exact h
      · cases e)⟩
    refine hK_.out _ _ inferInstance (fun _ => ?_)
    clear hK_ K_
    try simp only [Act.put, List.setIfInBounds_toArray]; try simp only [List.set_cons_succ, List.set_cons_zero]
    refine wpAnyH_done (by kernel_rfl) ?_ _
    have n99 : Nw w w9 := inferInstance
    go_wp2_with fail
    refine (Out_calls zw A9 _ w9 hW9 (by rw [List.length_append]; omega)).mono ?_
    rintro e w10 ⟨A10, n10, c10, rfl, hn, ho, hc, hnew⟩
    have st10 : Step nowhere w9 w10 := ⟨hc.out⟩
    go_wp2_with fail
    go_ret2
    exact ⟨stepN, A10, n10, c10, rfl, by have h9 := hn.out; simpa using h9, ⟨ho.out⟩, ⟨fun ad e => Nat.le_trans n99.out.size (hnew.out ad e)⟩⟩
set_option maxRecDepth 100000 in
theorem EncodeSnap0_calls (v e0 : Int) (w : World) :
    Calls Try.prog 27 #[.agg #[.int .i64 v, .int .i64 e0, .slice none 0 0]] w (EncPost (snapB v e0) (encAll [3] ++ (encAll [v, e0] ++ encAll [0])) w) := by
  unfold EncPost
  rcases hb : snapB v e0 with _ | _
  all_goals
    go_enter Try.func27, Try.ntmps27
    go_wp2_with (first | ((with_reducible apply (wpl_box_agg (dst := some 1))); (exact rfl); intro zt wzt _ _ _) | ((with_reducible apply (wpl_box_int (dst := some 1))); (exact rfl); intro zt wzt _ _ _) | ((with_reducible apply (wpl_box_slice (dst := some 1))); (exact rfl); intro zt wzt _ _ _) | ((with_reducible apply (wpl_box_str (dst := some 1))); (exact rfl); intro zt wzt _ _ _) | ((with_reducible apply (wpl_box_bool (dst := some 1))); (exact rfl); intro zt wzt _ _ _) | ((with_reducible apply (wpl_box_ptr (dst := some 1))); (exact rfl); intro zt wzt _ _ _) | ((with_reducible apply wpl_box_agg); (exact rfl); intro z wz _ _ _) | ((with_reducible apply wpl_box_int); (exact rfl); intro z wz _ _ _) | ((with_reducible apply wpl_box_slice); (exact rfl); intro z wz _ _ _) | ((with_reducible apply wpl_box_str); (exact rfl); intro z wz _ _ _) | ((with_reducible apply wpl_box_bool); (exact rfl); intro z wz _ _ _) | ((with_reducible apply wpl_box_ptr); (exact rfl); intro z wz _ _ _) | ((with_reducible apply wpl_loadrow); (exact rfl); (exact inferInstance); (exact inferInstance); (first | (with_reducible assumption) | (with_reducible exact H32.size _) | kernel_rfl)) | ((with_reducible apply wpl_loadcellN); (exact rfl); (exact inferInstance); (exact rfl)))
    refine (encSnap0_calls v e0 _).mono ?_
    rintro e w5 ⟨_, h5⟩
    rw [hb] at h5
  · obtain rfl : e = _ := h5
    go_wp2_with fail
    go_ret2
    exact ⟨stepN, rfl⟩
  · obtain ⟨A, n, c, rfl, hn, hO, hA⟩ := h5
    have HN := Lib.hid hn
    clear hn
    go_wp2_with fail
    go_ret2
    exact ⟨stepN, A, n, c, rfl, by have h9 := HN.out; simpa using h9, hO, NewA.monoS hA⟩
end Go.Proofs.Ytecmeejbpkcgiaa
