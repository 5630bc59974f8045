/- WuC, WzB, UnD, RoM -/
import Derived.Test.YthcleccofccbdaaGreatTyWzC
import Derived.Test.YthcleccofccbdaaGreatTyWsB
import Derived.Test.YthcleccofccbdaaGreatTyWzA
import Derived.Test.YthcleccofccbdaaGreatTyUnC
import Derived.Test.YthcleccofccbdaaGreatTyTkM
section
open Go Go.RowKit
namespace Go.Proofs.YthcleccofccbdaaGreat
theorem nameL_le {l : List UInt8} (h : nameL l = true) : l.length ≤ 12 := by
  unfold nameL at h
  simp only [Bool.and_eq_true, decide_eq_true_eq] at h
  exact h.1.2
theorem nameE_le {l : List UInt8} (h : nameE l = true) : l.length ≤ 12 := by
  unfold nameE at h
  rw [Bool.or_eq_true] at h
  rcases h with h | h
  · rw [List.isEmpty_iff.1 h]
    decide
  · exact nameL_le h
set_option maxRecDepth 100000 in
set_option maxHeartbeats 1600000 in
theorem layReport_calls (u n : ByteArray) (h : H32) (c k : Int) (l m : List UInt8) (hl : u.data.toList = l) (hm : n.data.toList = m) (w : World) :
    Calls Tryz.prog 75 #[.agg (repL u n h c k).toArray] w fun e w' => ∃ f caps T, e = .returned (.func (.func f) #[] caps) ∧ Step nowhere w w' ∧ Lays w' T (.func (.func f) #[] caps) (encRow l ++ (encRow m ++ (h.l ++ encAll [c, k]))) ∧ ∀ x, T x → w.heap.size ≤ x := by
  have hlen := repL_len u n h c k
  have hone := repL_one u n h c k
  go_enter Tryz.func75, Tryz.ntmps75
  go_wp2_with (first | ((with_reducible apply (wpl_box_agg (dst := some 1))); (exact rfl); intro zt wzt _ _ _))
  have hwz := (stepN (w0 := w) (w := wzt)).chg.size
  refine wp_region_N (nowhere) (by kernel_rfl) (fun wd _ _ => ?_)
  refine' takeH (i := 0) (v := _) rfl (by kernel_rfl) (by kernel_rfl) (by kernel_rfl) (fun _ _ _ h => h) (yields_of (by rfl) (fun w' _ => ?_)) inferInstance ?_
  rotate_left
  · (go_simp; try with_reducible rfl)
  try simp only [Act.put, sA]; try simp only [sB, sC]
  refine' takeH (i := 1) (v := _) rfl (by kernel_rfl) (by kernel_rfl) (by kernel_rfl) (fun _ _ _ h => h) (yields_of (by rfl) (fun w' _ => ?_)) inferInstance ?_
  rotate_left
  · ((with_reducible apply ev_loadcellN); (exact rfl); infer_instance; infer_instance; (exact rep_at0 _ _ _ _ _))
  try simp only [Act.put, sA]; try simp only [sB, sC]
  refine' takeH (i := 3) (v := _) rfl (by kernel_rfl) (by kernel_rfl) (by kernel_rfl) (fun _ _ _ h => h) (yields_of (by rfl) (fun w' _ => ?_)) inferInstance ?_
  rotate_left
  · (go_simp; try with_reducible rfl)
  try simp only [Act.put, sA]; try simp only [sB, sC]
  refine' takeH (i := 4) (v := _) rfl (by kernel_rfl) (by kernel_rfl) (by kernel_rfl) (fun _ _ _ h => h) (yields_of (by rfl) (fun w' _ => ?_)) inferInstance ?_
  rotate_left
  · ((with_reducible apply ev_loadcellN); (exact rfl); infer_instance; infer_instance; (exact rep_at1 _ _ _ _ _))
  try simp only [Act.put, sA]; try simp only [sB, sC]
  refine' takeH (i := 6) (v := _) rfl (by kernel_rfl) (by kernel_rfl) (by kernel_rfl) (fun _ _ _ h => h) (yields_of (by rfl) (fun w' _ => ?_)) inferInstance ?_
  rotate_left
  · (go_simp; try with_reducible rfl)
  try simp only [Act.put, sA]; try simp only [sB, sC]
  refine' takeH (i := 7) (v := _) rfl (by kernel_rfl) (by kernel_rfl) (by kernel_rfl) (fun _ _ _ h => h) (yields_of (by rfl) (fun w' _ => ?_)) inferInstance ?_
  rotate_left
  · ((with_reducible apply ev_loadMid); (exact rfl); infer_instance; infer_instance; (exact rep_sum _ _ _ _ _); (exact bs32 _); (decide))
  try simp only [Act.put, sA]; try simp only [sB, sC]
  refine' takeH (i := 9) (v := _) rfl (by kernel_rfl) (by kernel_rfl) (by kernel_rfl) (fun _ _ _ h => h) (yields_of (by rfl) (fun w' _ => ?_)) inferInstance ?_
  rotate_left
  · (go_simp; try with_reducible rfl)
  try simp only [Act.put, sA]; try simp only [sB, sC]
  refine' takeH (i := 10) (v := _) rfl (by kernel_rfl) (by kernel_rfl) (by kernel_rfl) (fun _ _ _ h => h) (yields_of (by rfl) (fun w' _ => ?_)) inferInstance ?_
  rotate_left
  · ((with_reducible apply ev_loadcellN); (exact rfl); infer_instance; infer_instance; (exact rep_at34 _ _ _ _ _))
  try simp only [Act.put, sA]; try simp only [sB, sC]
  refine' takeH (i := 11) (v := _) rfl (by kernel_rfl) (by kernel_rfl) (by kernel_rfl) (fun _ _ _ h => h) (yields_of (by rfl) (fun w' _ => ?_)) inferInstance ?_
  rotate_left
  · (go_simp; try with_reducible rfl)
  try simp only [Act.put, sA]; try simp only [sB, sC]
  refine' takeH (i := 12) (v := _) rfl (by kernel_rfl) (by kernel_rfl) (by kernel_rfl) (fun _ _ _ h => h) (yields_of (by rfl) (fun w' _ => ?_)) inferInstance ?_
  rotate_left
  · ((with_reducible apply ev_loadcellN); (exact rfl); infer_instance; infer_instance; (exact rep_at35 _ _ _ _ _))
  try simp only [Act.put, sA]; try simp only [sB, sC]
  refine wpAnyH_ready (rs := [2, 13]) (by kernel_rfl) (by simp) (AllReadyH.cons rfl (fun K_ hK_ => ?_) (AllReadyH.cons rfl (fun K_ hK_ => ?_) AllReadyH.nil))
  focus
    go_simp
    refine (text_calls u l hl _).mono ?_
    rintro e w5 ⟨f5, caps5, T5, rfl, _, hL5, hT5⟩
    refine hK_.out _ _ inferInstance (fun _ => ?_)
    clear hK_ K_
    try simp only [Act.put, sA]; try simp only [sB, sC]
    refine wpAnyH_ready (rs := [5, 13]) (by kernel_rfl) (by simp) (AllReadyH.cons rfl (fun K_ hK_ => ?_) (AllReadyH.cons rfl (fun K_ hK_ => ?_) AllReadyH.nil))
    focus
      go_simp
      refine (text_calls n m hm _).mono ?_
      rintro e w6 ⟨f6, caps6, T6, rfl, _, hL6, hT6⟩
      refine hK_.out _ _ inferInstance (fun _ => ?_)
      clear hK_ K_
      try simp only [Act.put, sA]; try simp only [sB, sC]
      refine wpAnyH_ready (rs := [8, 13]) (by kernel_rfl) (by simp) (AllReadyH.cons rfl (fun K_ hK_ => ?_) (AllReadyH.cons rfl (fun K_ hK_ => ?_) AllReadyH.nil))
      focus
        go_simp
        refine (fhash_calls h _).mono ?_
        rintro e w7 ⟨f7, caps7, T7, rfl, _, hL7, hT7⟩
        refine hK_.out _ _ inferInstance (fun _ => ?_)
        clear hK_ K_
        try simp only [Act.put, sA]; try simp only [sB, sC]
        refine goH (i := 13) (by kernel_rfl) rfl (fun K_ hK_ => ?_)
        rw [if_pos (by kernel_rfl)]
        refine wpr_of_list ?_
        (first | ((with_reducible apply (stop_dst (dst := some 16))); (try simp only [Act.put, sA, sB, sC]); ((with_reducible apply (wpl_bslice (dst := some 16))); (exact run_int2 _ _ _); intro zb wb _ _ _)) | ((with_reducible apply (stop_dst (dst := some 18))); (try simp only [Act.put, sA, sB, sC]); ((with_reducible apply (wpl_bslice (dst := some 18))); (exact run_fld4 _ _ _ _ _ _ _ _ _); intro zc wb _ _ _)))
        refine wpList_nil ?_
        unfold onlyN
        refine hK_.out _ _ inferInstance (fun _ => ?_)
        clear hK_ K_
        try simp only [Act.put, sA]; try simp only [sB, sC]
        refine goH (i := 14) (by kernel_rfl) rfl (fun K_ hK_ => ?_)
        go_simp
        refine (numsC (z := zb) (vs := [c, k]) rfl rfl (show 9 * 2 ≤ 1000000000 by decide)).mono ?_
        rintro e w8 ⟨f8, caps8, T8, rfl, _, hL8, hT8⟩
        have hzb : w.heap.size ≤ zb := (NewA.monoS (w0 := w) (NewA.of_born (z := zb) 0)).out ⟨zb, 0, none⟩ rfl
        refine hK_.out _ _ inferInstance (fun _ => ?_)
        clear hK_ K_
        try simp only [Act.put, sA]; try simp only [sB, sC]
        refine goH (i := 15) (by kernel_rfl) rfl (fun K_ hK_ => ?_)
        rw [if_pos (by kernel_rfl)]
        refine wpr_of_list ?_
        (first | ((with_reducible apply (stop_dst (dst := some 16))); (try simp only [Act.put, sA, sB, sC]); ((with_reducible apply (wpl_bslice (dst := some 16))); (exact run_int2 _ _ _); intro zb wb _ _ _)) | ((with_reducible apply (stop_dst (dst := some 18))); (try simp only [Act.put, sA, sB, sC]); ((with_reducible apply (wpl_bslice (dst := some 18))); (exact run_fld4 _ _ _ _ _ _ _ _ _); intro zc wb _ _ _)))
        refine wpList_nil ?_
        unfold onlyN
        refine hK_.out _ _ inferInstance (fun _ => ?_)
        clear hK_ K_
        try simp only [Act.put, sA]; try simp only [sB, sC]
        refine goH (i := 16) (by kernel_rfl) rfl (fun K_ hK_ => ?_)
        go_simp
        refine (fields4 (z := zc) (hL5.later (stepN (w0 := w5)).chg (fun _ _ h => h)) (hL6.later (stepN (w0 := w6)).chg (fun _ _ h => h)) (hL7.later (stepN (w0 := w7)).chg (fun _ _ h => h)) (hL8.later (stepN (w0 := w8)).chg (fun _ _ h => h))).mono ?_
        rintro e w9 ⟨f9, caps9, T9, rfl, _, hL9, hT9⟩
        have hzc : w.heap.size ≤ zc := (NewA.monoS (w0 := w) (NewA.of_born (z := zc) 0)).out ⟨zc, 0, none⟩ rfl
        refine hK_.out _ _ inferInstance (fun _ => ?_)
        clear hK_ K_
        try simp only [Act.put, sA]; try simp only [sB, sC]
        refine' takeH (i := 17) (v := _) rfl (by kernel_rfl) (by kernel_rfl) (by kernel_rfl) (fun _ _ _ h => h) (yields_of (by rfl) (fun w' _ => ?_)) inferInstance ?_
        rotate_left
        · (go_simp; try with_reducible rfl)
        try simp only [Act.put, sA]; try simp only [sB, sC]
        refine wpAnyH_done (by kernel_rfl) ?_ _
      rotate_left 1
      focus
        rw [if_pos (by kernel_rfl)]
        refine wpr_of_list ?_
        (first | ((with_reducible apply (stop_dst (dst := some 16))); (try simp only [Act.put, sA, sB, sC]); ((with_reducible apply (wpl_bslice (dst := some 16))); (exact run_int2 _ _ _); intro zb wb _ _ _)) | ((with_reducible apply (stop_dst (dst := some 18))); (try simp only [Act.put, sA, sB, sC]); ((with_reducible apply (wpl_bslice (dst := some 18))); (exact run_fld4 _ _ _ _ _ _ _ _ _); intro zc wb _ _ _)))
        refine wpList_nil ?_
        unfold onlyN
        refine hK_.out _ _ inferInstance (fun _ => ?_)
        clear hK_ K_
        try simp only [Act.put, sA]; try simp only [sB, sC]
        refine goH (i := 8) (by kernel_rfl) rfl (fun K_ hK_ => ?_)
        go_simp
        refine (fhash_calls h _).mono ?_
        rintro e w7 ⟨f7, caps7, T7, rfl, _, hL7, hT7⟩
        refine hK_.out _ _ inferInstance (fun _ => ?_)
        clear hK_ K_
        try simp only [Act.put, sA]; try simp only [sB, sC]
        refine goH (i := 14) (by kernel_rfl) rfl (fun K_ hK_ => ?_)
        go_simp
        refine (numsC (z := zb) (vs := [c, k]) rfl rfl (show 9 * 2 ≤ 1000000000 by decide)).mono ?_
        rintro e w8 ⟨f8, caps8, T8, rfl, _, hL8, hT8⟩
        have hzb : w.heap.size ≤ zb := (NewA.monoS (w0 := w) (NewA.of_born (z := zb) 0)).out ⟨zb, 0, none⟩ rfl
        refine hK_.out _ _ inferInstance (fun _ => ?_)
        clear hK_ K_
        try simp only [Act.put, sA]; try simp only [sB, sC]
        refine goH (i := 15) (by kernel_rfl) rfl (fun K_ hK_ => ?_)
        rw [if_pos (by kernel_rfl)]
        refine wpr_of_list ?_
        (first | ((with_reducible apply (stop_dst (dst := some 16))); (try simp only [Act.put, sA, sB, sC]); ((with_reducible apply (wpl_bslice (dst := some 16))); (exact run_int2 _ _ _); intro zb wb _ _ _)) | ((with_reducible apply (stop_dst (dst := some 18))); (try simp only [Act.put, sA, sB, sC]); ((with_reducible apply (wpl_bslice (dst := some 18))); (exact run_fld4 _ _ _ _ _ _ _ _ _); intro zc wb _ _ _)))
        refine wpList_nil ?_
        unfold onlyN
        refine hK_.out _ _ inferInstance (fun _ => ?_)
        clear hK_ K_
        try simp only [Act.put, sA]; try simp only [sB, sC]
        refine goH (i := 16) (by kernel_rfl) rfl (fun K_ hK_ => ?_)
        go_simp
        refine (fields4 (z := zc) (hL5.later (stepN (w0 := w5)).chg (fun _ _ h => h)) (hL6.later (stepN (w0 := w6)).chg (fun _ _ h => h)) (hL7.later (stepN (w0 := w7)).chg (fun _ _ h => h)) (hL8.later (stepN (w0 := w8)).chg (fun _ _ h => h))).mono ?_
        rintro e w9 ⟨f9, caps9, T9, rfl, _, hL9, hT9⟩
        have hzc : w.heap.size ≤ zc := (NewA.monoS (w0 := w) (NewA.of_born (z := zc) 0)).out ⟨zc, 0, none⟩ rfl
        refine hK_.out _ _ inferInstance (fun _ => ?_)
        clear hK_ K_
        try simp only [Act.put, sA]; try simp only [sB, sC]
        refine' takeH (i := 17) (v := _) rfl (by kernel_rfl) (by kernel_rfl) (by kernel_rfl) (fun _ _ _ h => h) (yields_of (by rfl) (fun w' _ => ?_)) inferInstance ?_
        rotate_left
        · (go_simp; try with_reducible rfl)
        try simp only [Act.put, sA]; try simp only [sB, sC]
        refine wpAnyH_done (by kernel_rfl) ?_ _
      rotate_left 1
    rotate_left 2
    focus
      rw [if_pos (by kernel_rfl)]
      refine wpr_of_list ?_
      (first | ((with_reducible apply (stop_dst (dst := some 16))); (try simp only [Act.put, sA, sB, sC]); ((with_reducible apply (wpl_bslice (dst := some 16))); (exact run_int2 _ _ _); intro zb wb _ _ _)) | ((with_reducible apply (stop_dst (dst := some 18))); (try simp only [Act.put, sA, sB, sC]); ((with_reducible apply (wpl_bslice (dst := some 18))); (exact run_fld4 _ _ _ _ _ _ _ _ _); intro zc wb _ _ _)))
      refine wpList_nil ?_
      unfold onlyN
      refine hK_.out _ _ inferInstance (fun _ => ?_)
      clear hK_ K_
      try simp only [Act.put, sA]; try simp only [sB, sC]
      refine goH (i := 5) (by kernel_rfl) rfl (fun K_ hK_ => ?_)
      go_simp
      refine (text_calls n m hm _).mono ?_
      rintro e w6 ⟨f6, caps6, T6, rfl, _, hL6, hT6⟩
      refine hK_.out _ _ inferInstance (fun _ => ?_)
      clear hK_ K_
      try simp only [Act.put, sA]; try simp only [sB, sC]
      refine goH (i := 8) (by kernel_rfl) rfl (fun K_ hK_ => ?_)
      go_simp
      refine (fhash_calls h _).mono ?_
      rintro e w7 ⟨f7, caps7, T7, rfl, _, hL7, hT7⟩
      refine hK_.out _ _ inferInstance (fun _ => ?_)
      clear hK_ K_
      try simp only [Act.put, sA]; try simp only [sB, sC]
      refine goH (i := 14) (by kernel_rfl) rfl (fun K_ hK_ => ?_)
      go_simp
      refine (numsC (z := zb) (vs := [c, k]) rfl rfl (show 9 * 2 ≤ 1000000000 by decide)).mono ?_
      rintro e w8 ⟨f8, caps8, T8, rfl, _, hL8, hT8⟩
      have hzb : w.heap.size ≤ zb := (NewA.monoS (w0 := w) (NewA.of_born (z := zb) 0)).out ⟨zb, 0, none⟩ rfl
      refine hK_.out _ _ inferInstance (fun _ => ?_)
      clear hK_ K_
      try simp only [Act.put, sA]; try simp only [sB, sC]
      refine goH (i := 15) (by kernel_rfl) rfl (fun K_ hK_ => ?_)
      rw [if_pos (by kernel_rfl)]
      refine wpr_of_list ?_
      (first | ((with_reducible apply (stop_dst (dst := some 16))); (try simp only [Act.put, sA, sB, sC]); ((with_reducible apply (wpl_bslice (dst := some 16))); (exact run_int2 _ _ _); intro zb wb _ _ _)) | ((with_reducible apply (stop_dst (dst := some 18))); (try simp only [Act.put, sA, sB, sC]); ((with_reducible apply (wpl_bslice (dst := some 18))); (exact run_fld4 _ _ _ _ _ _ _ _ _); intro zc wb _ _ _)))
      refine wpList_nil ?_
      unfold onlyN
      refine hK_.out _ _ inferInstance (fun _ => ?_)
      clear hK_ K_
      try simp only [Act.put, sA]; try simp only [sB, sC]
      refine goH (i := 16) (by kernel_rfl) rfl (fun K_ hK_ => ?_)
      go_simp
      refine (fields4 (z := zc) (hL5.later (stepN (w0 := w5)).chg (fun _ _ h => h)) (hL6.later (stepN (w0 := w6)).chg (fun _ _ h => h)) (hL7.later (stepN (w0 := w7)).chg (fun _ _ h => h)) (hL8.later (stepN (w0 := w8)).chg (fun _ _ h => h))).mono ?_
      rintro e w9 ⟨f9, caps9, T9, rfl, _, hL9, hT9⟩
      have hzc : w.heap.size ≤ zc := (NewA.monoS (w0 := w) (NewA.of_born (z := zc) 0)).out ⟨zc, 0, none⟩ rfl
      refine hK_.out _ _ inferInstance (fun _ => ?_)
      clear hK_ K_
      try simp only [Act.put, sA]; try simp only [sB, sC]
      refine' takeH (i := 17) (v := _) rfl (by kernel_rfl) (by kernel_rfl) (by kernel_rfl) (fun _ _ _ h => h) (yields_of (by rfl) (fun w' _ => ?_)) inferInstance ?_
      rotate_left
      · (go_simp; try with_reducible rfl)
      try simp only [Act.put, sA]; try simp only [sB, sC]
      refine wpAnyH_done (by kernel_rfl) ?_ _
    rotate_left 1
  rotate_left 3
  focus
    rw [if_pos (by kernel_rfl)]
    refine wpr_of_list ?_
    (first | ((with_reducible apply (stop_dst (dst := some 16))); (try simp only [Act.put, sA, sB, sC]); ((with_reducible apply (wpl_bslice (dst := some 16))); (exact run_int2 _ _ _); intro zb wb _ _ _)) | ((with_reducible apply (stop_dst (dst := some 18))); (try simp only [Act.put, sA, sB, sC]); ((with_reducible apply (wpl_bslice (dst := some 18))); (exact run_fld4 _ _ _ _ _ _ _ _ _); intro zc wb _ _ _)))
    refine wpList_nil ?_
    unfold onlyN
    refine hK_.out _ _ inferInstance (fun _ => ?_)
    clear hK_ K_
    try simp only [Act.put, sA]; try simp only [sB, sC]
    refine goH (i := 2) (by kernel_rfl) rfl (fun K_ hK_ => ?_)
    go_simp
    refine (text_calls u l hl _).mono ?_
    rintro e w5 ⟨f5, caps5, T5, rfl, _, hL5, hT5⟩
    refine hK_.out _ _ inferInstance (fun _ => ?_)
    clear hK_ K_
    try simp only [Act.put, sA]; try simp only [sB, sC]
    refine goH (i := 5) (by kernel_rfl) rfl (fun K_ hK_ => ?_)
    go_simp
    refine (text_calls n m hm _).mono ?_
    rintro e w6 ⟨f6, caps6, T6, rfl, _, hL6, hT6⟩
    refine hK_.out _ _ inferInstance (fun _ => ?_)
    clear hK_ K_
    try simp only [Act.put, sA]; try simp only [sB, sC]
    refine goH (i := 8) (by kernel_rfl) rfl (fun K_ hK_ => ?_)
    go_simp
    refine (fhash_calls h _).mono ?_
    rintro e w7 ⟨f7, caps7, T7, rfl, _, hL7, hT7⟩
    refine hK_.out _ _ inferInstance (fun _ => ?_)
    clear hK_ K_
    try simp only [Act.put, sA]; try simp only [sB, sC]
    refine goH (i := 14) (by kernel_rfl) rfl (fun K_ hK_ => ?_)
    go_simp
    refine (numsC (z := zb) (vs := [c, k]) rfl rfl (show 9 * 2 ≤ 1000000000 by decide)).mono ?_
    rintro e w8 ⟨f8, caps8, T8, rfl, _, hL8, hT8⟩
    have hzb : w.heap.size ≤ zb := (NewA.monoS (w0 := w) (NewA.of_born (z := zb) 0)).out ⟨zb, 0, none⟩ rfl
    refine hK_.out _ _ inferInstance (fun _ => ?_)
    clear hK_ K_
    try simp only [Act.put, sA]; try simp only [sB, sC]
    refine goH (i := 15) (by kernel_rfl) rfl (fun K_ hK_ => ?_)
    rw [if_pos (by kernel_rfl)]
    refine wpr_of_list ?_
    (first | ((with_reducible apply (stop_dst (dst := some 16))); (try simp only [Act.put, sA, sB, sC]); ((with_reducible apply (wpl_bslice (dst := some 16))); (exact run_int2 _ _ _); intro zb wb _ _ _)) | ((with_reducible apply (stop_dst (dst := some 18))); (try simp only [Act.put, sA, sB, sC]); ((with_reducible apply (wpl_bslice (dst := some 18))); (exact run_fld4 _ _ _ _ _ _ _ _ _); intro zc wb _ _ _)))
    refine wpList_nil ?_
    unfold onlyN
    refine hK_.out _ _ inferInstance (fun _ => ?_)
    clear hK_ K_
    try simp only [Act.put, sA]; try simp only [sB, sC]
    refine goH (i := 16) (by kernel_rfl) rfl (fun K_ hK_ => ?_)
    go_simp
    refine (fields4 (z := zc) (hL5.later (stepN (w0 := w5)).chg (fun _ _ h => h)) (hL6.later (stepN (w0 := w6)).chg (fun _ _ h => h)) (hL7.later (stepN (w0 := w7)).chg (fun _ _ h => h)) (hL8.later (stepN (w0 := w8)).chg (fun _ _ h => h))).mono ?_
    rintro e w9 ⟨f9, caps9, T9, rfl, _, hL9, hT9⟩
    have hzc : w.heap.size ≤ zc := (NewA.monoS (w0 := w) (NewA.of_born (z := zc) 0)).out ⟨zc, 0, none⟩ rfl
    refine hK_.out _ _ inferInstance (fun _ => ?_)
    clear hK_ K_
    try simp only [Act.put, sA]; try simp only [sB, sC]
    refine' takeH (i := 17) (v := _) rfl (by kernel_rfl) (by kernel_rfl) (by kernel_rfl) (fun _ _ _ h => h) (yields_of (by rfl) (fun w' _ => ?_)) inferInstance ?_
    rotate_left
    · (go_simp; try with_reducible rfl)
    try simp only [Act.put, sA]; try simp only [sB, sC]
    refine wpAnyH_done (by kernel_rfl) ?_ _
  rotate_left 1
  all_goals
    go_wp2_with fail
    go_ret
    refine ⟨f9, caps9, T9, rfl, stepN, hL9, fun x hx => ?_⟩
    rcases hT9 x hx with h | rfl | h | h | h | h
    · exact Nat.le_trans (stepN (w0 := w)).chg.size h
    · exact hzc
    · exact Nat.le_trans (stepN (w0 := w)).chg.size (hT5 x h)
    · exact Nat.le_trans (stepN (w0 := w)).chg.size (hT6 x h)
    · exact Nat.le_trans (stepN (w0 := w)).chg.size (hT7 x h)
    · rcases hT8 x h with h | rfl
      · exact Nat.le_trans (stepN (w0 := w)).chg.size h
      · exact hzb
set_option maxRecDepth 100000 in
set_option maxHeartbeats 800000 in
theorem encReport_calls (u n : ByteArray) (h : H32) (c k : Int) (l m : List UInt8) (hl : u.data.toList = l) (hm : n.data.toList = m) (w : World) :
    Calls Tryz.prog 73 #[.int .i64 5, .agg (repL u n h c k).toArray, .func (.func 74) #[] #[], .func (.func 75) #[] #[]] w (EncPost (repB l m c k) (encAll [5] ++ (encRow l ++ (encRow m ++ (h.l ++ encAll [c, k])))) w) := by
  have hlen := repL_len u n h c k
  have hone := repL_one u n h c k
  unfold EncPost
  rcases hb : repB l m c k with _ | _
  · go_enter Tryz.func73, Tryz.ntmps73
    go_wp2_with (first | ((with_reducible apply (wpl_box_agg (dst := some 5))); (exact rfl); intro zt wzt _ _ _) | ((with_reducible apply wpl_loadrow); (exact rfl); infer_instance; infer_instance; (first | (with_reducible assumption) | (with_reducible exact H32.size _) | kernel_rfl)))
    refine (isReport_calls u n h c k l m hl hm _).mono ?_
    rw [hb]
    rintro e w5 ⟨rfl, _⟩
    go_wp2_with fail
    go_ret2
    exact ⟨stepN, rfl⟩
  · go_enter Tryz.func73, Tryz.ntmps73
    go_wp2_with (first | ((with_reducible apply (wpl_box_agg (dst := some 5))); (exact rfl); intro zt wzt _ _ _) | ((with_reducible apply wpl_loadrow); (exact rfl); infer_instance; infer_instance; (first | (with_reducible assumption) | (with_reducible exact H32.size _) | kernel_rfl)))
    refine (isReport_calls u n h c k l m hl hm _).mono ?_
    rw [hb]
    rintro e w5 ⟨rfl, _⟩
    go_wp2_with (first | ((with_reducible apply (wpl_alloc (dst := some 10))); intro zw wzw _ _ _))
    have hb1 : nameL l = true := by
      have := hb
      simp only [repB, Bool.and_eq_true] at this
      exact this.1.1.1
    have hb2 : nameE m = true := by
      have := hb
      simp only [repB, Bool.and_eq_true] at this
      exact this.1.1.2
    have hzw := (inferInstance : HB wzw zw 144 #[.slice none 0 0]).out.lt
    have n9 : Nw w wzw := inferInstance
    refine wp_region_N ((only zw)) (by kernel_rfl) (fun wd _ _ => ?_)
    refine' takeH (i := 0) (v := _) rfl (by kernel_rfl) (by kernel_rfl) (by kernel_rfl) (fun _ _ _ h => h) (yields_of (by rfl) (fun w' _ => ?_)) inferInstance ?_
    rotate_left
    · (go_simp; try with_reducible rfl)
    try simp only [Act.put, sA]; try simp only [sB, sC]
    refine' takeH (i := 3) (v := _) rfl (by kernel_rfl) (by kernel_rfl) (by kernel_rfl) (fun _ _ _ h => h) (yields_of (by rfl) (fun w' _ => ?_)) inferInstance ?_
    rotate_left
    · (go_simp; try with_reducible rfl)
    try simp only [Act.put, sA]; try simp only [sB, sC]
    refine' takeH (i := 4) (v := _) rfl (by kernel_rfl) (by kernel_rfl) (by kernel_rfl) (fun _ _ _ h => h) (yields_of (by rfl) (fun w' _ => ?_)) inferInstance ?_
    rotate_left
    · ((with_reducible apply ev_loadrow); (exact rfl); infer_instance; infer_instance; (first | (with_reducible assumption) | (with_reducible exact H32.size _) | kernel_rfl))
    try simp only [Act.put, sA]; try simp only [sB, sC]
    refine goH (i := 1) (by kernel_rfl) rfl (fun K_ hK_ => ?_)
    rw [if_pos (by kernel_rfl)]
    refine wpr_of_list ?_
    (first | ((with_reducible apply (stop_dst (dst := some 16))); (try simp only [Act.put, sA, sB, sC]); ((with_reducible apply (wpl_bslice (dst := some 16))); (exact run_int1 _ _); intro zb wb _ _ _)) | ((with_reducible apply (stop_dst (dst := some 21))); (try simp only [Act.put, sA, sB, sC]); ((with_reducible apply (wpl_bslice (dst := some 21))); (exact run_fld2 _ _ _ _ _); intro zc wb _ _ _)))
    refine wpList_nil ?_
    unfold onlyN
    refine hK_.out _ _ inferInstance (fun _ => ?_)
    clear hK_ K_
    try simp only [Act.put, sA]; try simp only [sB, sC]
    refine goH (i := 2) (by kernel_rfl) rfl (fun K_ hK_ => ?_)
    go_simp
    refine (numsC (z := zb) (vs := [5]) rfl rfl (show 9 * 1 ≤ 1000000000 by decide)).mono ?_
    rintro e w6 ⟨f6, caps6, T6, rfl, _, hL6, hT6⟩
    have hzb : wzw.heap.size ≤ zb := (NewA.monoS (w0 := wzw) (NewA.of_born (z := zb) 0)).out ⟨zb, 0, none⟩ rfl
    refine hK_.out _ _ inferInstance (fun _ => ?_)
    clear hK_ K_
    try simp only [Act.put, sA]; try simp only [sB, sC]
    refine goH (i := 5) (by kernel_rfl) rfl (fun K_ hK_ => ?_)
    go_simp
    refine (layReport_calls u n h c k l m hl hm _).mono ?_
    rintro e w7 ⟨f7, caps7, T7, rfl, _, hL7, hT7⟩
    refine hK_.out _ _ inferInstance (fun _ => ?_)
    clear hK_ K_
    try simp only [Act.put, sA]; try simp only [sB, sC]
    refine goH (i := 6) (by kernel_rfl) rfl (fun K_ hK_ => ?_)
    rw [if_pos (by kernel_rfl)]
    refine wpr_of_list ?_
    (first | ((with_reducible apply (stop_dst (dst := some 16))); (try simp only [Act.put, sA, sB, sC]); ((with_reducible apply (wpl_bslice (dst := some 16))); (exact run_int1 _ _); intro zb wb _ _ _)) | ((with_reducible apply (stop_dst (dst := some 21))); (try simp only [Act.put, sA, sB, sC]); ((with_reducible apply (wpl_bslice (dst := some 21))); (exact run_fld2 _ _ _ _ _); intro zc wb _ _ _)))
    refine wpList_nil ?_
    unfold onlyN
    refine hK_.out _ _ inferInstance (fun _ => ?_)
    clear hK_ K_
    try simp only [Act.put, sA]; try simp only [sB, sC]
    refine goH (i := 7) (by kernel_rfl) rfl (fun K_ hK_ => ?_)
    go_simp
    refine (fields2 (z := zc) (hL6.later (stepN (w0 := w6)).chg (fun _ _ h => h)) (hL7.later (stepN (w0 := w7)).chg (fun _ _ h => h))).mono ?_
    rintro e w8 ⟨f8, caps8, T8, rfl, _, hL8, hT8⟩
    have hzc : wzw.heap.size ≤ zc := (NewA.monoS (w0 := wzw) (NewA.of_born (z := zc) 0)).out ⟨zc, 0, none⟩ rfl
    obtain ⟨f9, caps9, he9, hent, hrun⟩ := hL8.run
    injection he9 with e1 _ e2
    injection e1 with e1
    subst e1 e2
    have hw8 : WrAt w8 zw none [] := ⟨⟨0, 0, rfl, (inferInstance : HB w8 zw 144 #[.slice none 0 0]).out, Own.nil _ _ _⟩, fun ad h => by cases h⟩
    have hT : ∀ x, Wf zw none x → ¬ T8 x := by
      rintro x (rfl | ⟨ad, e, _⟩) hx
      · rcases hT8 _ hx with h | h | h | h
        · have := Nat.le_trans (stepN (w0 := wzw)).chg.size h; omega
        · omega
        · rcases hT6 _ h with h | h
          · have := Nat.le_trans (stepN (w0 := wzw)).chg.size h; omega
          · omega
        · have := Nat.le_trans (stepN (w0 := wzw)).chg.size (hT7 _ h); omega
      · cases e
    have hlen2 : ([] : List UInt8).length + (encAll [5] ++ (encRow l ++ (encRow m ++ (h.l ++ encAll [c, k])))).length ≤ 1000000000 := by
      have a1 := encAll_len [5]
      have a2 := encAll_len [c, k]
      have a3 := nameL_le hb1
      have a4 := nameE_le hb2
      have a5 := encRow_len l (by omega)
      have a6 := encRow_len m (by omega)
      simp only [List.length_append, List.length_cons, List.length_nil, H32.len_] at *
      omega
    have HRUN := Lib.hid (hrun w8 zw none [] (Chg.refl _ _) hw8 hT hlen2)
    clear hrun
    refine hK_.out _ _ inferInstance (fun _ => ?_)
    clear hK_ K_
    try simp only [Act.put, sA]; try simp only [sB, sC]
    refine goH (i := 8) (by kernel_rfl) rfl (fun K_ hK_ => ?_)
    go_simp
    refine HRUN.out.mono ?_
    rintro e w9 ⟨rfl, A9, hW9, hC9, hM9⟩
    have st9 : Step (only zw) w8 w9 := ⟨hC9.mono (fun x _ hx => by
      rcases hx with h | ⟨ad, e, _⟩
      · exact h
      · cases e)⟩
    refine hK_.out _ _ inferInstance (fun _ => ?_)
    clear hK_ K_
    try simp only [Act.put, sA]; try simp only [sB, sC]
    refine wpAnyH_done (by kernel_rfl) ?_ _
    have n99 : Nw w w9 := inferInstance
    go_wp2_with fail
    refine (Out_calls zw A9 _ w9 hW9 (by rw [List.length_append]; omega)).mono ?_
    rintro e w10 ⟨A10, n10, c10, rfl, hn, ho, hc, hnew⟩
    have st10 : Step nowhere w9 w10 := ⟨hc.out⟩
    go_wp2_with fail
    go_ret2
    exact ⟨stepN, A10, n10, c10, rfl, by have h9 := hn.out; simpa using h9, ⟨ho.out⟩, ⟨fun ad e => Nat.le_trans n99.out.size (hnew.out ad e)⟩⟩
set_option maxRecDepth 100000 in
theorem EncodeReport_calls (u n : ByteArray) (h : H32) (c k : Int) (l m : List UInt8) (hl : u.data.toList = l) (hm : n.data.toList = m) (w : World) :
    Calls Tryz.prog 27 #[.agg (repL u n h c k).toArray] w (EncPost (repB l m c k) (encAll [5] ++ (encRow l ++ (encRow m ++ (h.l ++ encAll [c, k])))) w) := by
  have hlen := repL_len u n h c k
  have hone := repL_one u n h c k
  unfold EncPost
  rcases hb : repB l m c k with _ | _
  all_goals
    go_enter Tryz.func27, Tryz.ntmps27
    go_wp2_with (first | ((with_reducible apply (wpl_box_agg (dst := some 1))); (exact rfl); intro zt wzt _ _ _) | ((with_reducible apply wpl_loadrow); (exact rfl); infer_instance; infer_instance; (first | (with_reducible assumption) | (with_reducible exact H32.size _) | kernel_rfl)))
    refine (encReport_calls u n h c k l m hl hm _).mono ?_
    rintro e w5 ⟨_, h5⟩
    rw [hb] at h5
  · obtain rfl : e = _ := h5
    go_wp2_with fail
    go_ret2
    exact ⟨stepN, rfl⟩
  · obtain ⟨A, n, c, rfl, hn, hO, hA⟩ := h5
    have HN := Lib.hid hn
    clear hn
    go_wp2_with fail
    go_ret2
    exact ⟨stepN, A, n, c, rfl, by have h9 := HN.out; simpa using h9, hO, NewA.monoS hA⟩
end Go.Proofs.YthcleccofccbdaaGreat
end
section
open Go Go.RowKit
namespace Go.Proofs.YthcleccofccbdaaGreat
instance (priority := 600) Sub.grewW (w0 w : World) (A A' : Option Addr) (T : Nat → Prop) [g : Grew w A A'] [s : Sub w0 (rowOf A) T] [n : SzLe w0 w] : Sub w0 (rowOf A') T := ⟨fun x hx ⟨ad, e, hk⟩ => by
  rcases g.out with h1 | h1
  · exact s.out x hx ⟨ad, by rw [← h1]; exact e, hk⟩
  · have h2 := n.out
    rw [h1] at e
    injection e with e
    subst e
    have h3 : w.heap.size = x := hk
    omega⟩
end Go.Proofs.YthcleccofccbdaaGreat
end
section
open Go Go.RowKit
namespace Go.Proofs.YthcleccofccbdaaGreat
def flatH (l : List H32) : List UInt8 := l.flatMap (·.l)
def keyB (l : List H32) (need : Int) : List UInt8 := encAll [(l.length : Int)] ++ flatH l ++ encAll [need]
end Go.Proofs.YthcleccofccbdaaGreat
end
section
open Go Go.RowKit
namespace Go.Proofs.YthcleccofccbdaaGreat
/-- so many digests taken -/
def hS (s : RS) : Nat → RS
  | 0 => s
  | k + 1 => ((hS s k).raw 32).2
def hN (s : RS) : Nat → List H32
  | 0 => []
  | k + 1 => hN s k ++ [(hS s k).hsh]
theorem hN_len (s : RS) : ∀ k, (hN s k).length = k
  | 0 => rfl
  | k + 1 => by rw [hN, List.length_append, hN_len s k]; rfl
theorem hS_le (s : RS) : ∀ k, (hS s k).b.length ≤ s.b.length
  | 0 => Nat.le_refl _
  | k + 1 => Nat.le_trans ((hS s k).raw_l 32) (hS_le s k)
theorem flatH_snoc (l : List H32) (h : H32) : flatH (l ++ [h]) = flatH l ++ h.l := by simp [flatH]
theorem hS_back (s : RS) : ∀ k, (hS s k).e = false → s.e = false ∧ s.b = flatH (hN s k) ++ (hS s k).b
  | 0, h => ⟨h, rfl⟩
  | k + 1, h => by
    obtain ⟨h1, h2⟩ := hsh_back (s := hS s k) h
    obtain ⟨h3, h4⟩ := hS_back s k h1
    refine ⟨h3, ?_⟩
    rw [hN, flatH_snoc, List.append_assoc]
    show s.b = flatH (hN s k) ++ ((hS s k).hsh.l ++ ((hS s k).raw 32).2.b)
    rw [← h2]
    exact h4
theorem hS_mono (s : RS) (j : Nat) : ∀ k, (hS s k).e = false → j ≤ k → (hS s j).e = false
  | 0, h, hj => by
    obtain rfl : j = 0 := by omega
    exact h
  | k + 1, h, hj => by
    by_cases e : j = k + 1
    · subst e; exact h
    · exact hS_mono s j k (hsh_back (s := hS s k) h).1 (by omega)
/-- keys taken: the program's way -/
def kL (s : RS) : List H32 := if 4 < s.num.1 then [] else hN s.num.2 s.num.1
def kM (s : RS) : RS := if 4 < s.num.1 then RS.bad else hS s.num.2 s.num.1
def kD (s : RS) : Nat := (kM s).num.1
def kR (s : RS) : RS := (kM s).num.2
theorem kM_le (s : RS) : (kM s).b.length ≤ s.b.length := by
  unfold kM
  split
  · exact Nat.zero_le _
  · exact Nat.le_trans (hS_le _ _) (RS.num_le s)
theorem kR_le (s : RS) : (kR s).b.length ≤ s.b.length := Nat.le_trans (RS.num_le _) (kM_le s)
/-- the reference's way -/
def GotQ (s : RS) (l : List H32) (need : Nat) (s' : RS) : Prop := ∃ j, j ≤ 5 ∧ j ≤ s.num.1 ∧ (j = s.num.1 ∨ j = 5 ∨ (hS s.num.2 j).e = true) ∧ l = hN s.num.2 j ∧ need = (hS s.num.2 j).num.1 ∧ s' = (hS s.num.2 j).num.2
theorem GotQ.same {s s' : RS} {l : List H32} {need : Nat} (h : GotQ s l need s') (he : s'.e = false) (hl : l.length ≤ 4) : l = kL s ∧ need = kD s ∧ s' = kR s := by
  obtain ⟨j, h5, hn, hj, rfl, rfl, rfl⟩ := h
  have h1 := (num_back he).1
  rw [hN_len] at hl
  have e : j = s.num.1 := by
    rcases hj with h | h | h
    · exact h
    · omega
    · rw [h1] at h; cases h
  have h4 : ¬ 4 < s.num.1 := by omega
  rw [kL, kD, kR, kM, if_neg h4, if_neg h4, ← e]
  exact ⟨rfl, rfl, rfl⟩
theorem kM_e {s : RS} (h : (kR s).e = false) : (kM s).e = false := (num_back h).1
theorem kM_n {s : RS} (h : (kM s).e = false) : ¬ 4 < s.num.1 := fun h4 => by
  rw [kM, if_pos h4] at h
  cases h
theorem GotQ.prog {s s' : RS} {l : List H32} {need : Nat} (h : GotQ s l need s') (he : (kR s).e = false) : l = kL s ∧ need = kD s ∧ s' = kR s := by
  obtain ⟨j, h5, hn, hj, rfl, rfl, rfl⟩ := h
  have h1 := kM_e he
  have h4 := kM_n h1
  rw [kM, if_neg h4] at h1
  have e : j = s.num.1 := by
    rcases hj with h | h | h
    · exact h
    · omega
    · rw [hS_mono _ _ _ h1 hn] at h; cases h
  rw [kL, kD, kR, kM, if_neg h4, if_neg h4, ← e]
  exact ⟨rfl, rfl, rfl⟩
theorem key_back {s : RS} (he : (kR s).e = false) : s.e = false ∧ s.b = keyB (kL s) (kD s) ++ (kR s).b := by
  have h1 := kM_e he
  have h4 := kM_n h1
  obtain ⟨a1, a2, a3⟩ := num_back (s := kM s) he
  have e1 : kM s = hS s.num.2 s.num.1 := by rw [kM, if_neg h4]
  rw [e1] at h1
  obtain ⟨b1, b2⟩ := hS_back s.num.2 s.num.1 h1
  obtain ⟨c1, c2, c3⟩ := num_back (s := s) b1
  refine ⟨c1, ?_⟩
  have e2 : kL s = hN s.num.2 s.num.1 := by rw [kL, if_neg h4]
  have e3 : encAll [(kD s : Int)] = enc (kD s) := encN a3
  have e4 : encAll [((kL s).length : Int)] = enc s.num.1 := by rw [e2, hN_len]; exact encN c3
  rw [keyB, e4, e3, c2, List.append_assoc, List.append_assoc]
  congr 1
  rw [b2, ← e2, ← e1]
  congr 1
/-- so many keys taken -/
def kAt (s : RS) : Nat → RS
  | 0 => s
  | k + 1 => kR (kAt s k)
def kK (s : RS) : Nat → List (List H32 × Int)
  | 0 => []
  | k + 1 => kK s k ++ [(kL (kAt s k), (kD (kAt s k) : Int))]
theorem kAt_le (s : RS) : ∀ k, (kAt s k).b.length ≤ s.b.length
  | 0 => Nat.le_refl _
  | k + 1 => Nat.le_trans (kR_le _) (kAt_le s k)
def GotN : Nat → RS → List (List H32 × Int) → RS → Prop
  | 0, s, K, s' => K = [] ∧ s' = s
  | m + 1, s, K, s' => ∃ K' t l need, GotN m s K' t ∧ GotQ t l need s' ∧ K = K' ++ [(l, (need : Int))]
theorem GotN.same {s : RS} : ∀ (m : Nat) {K : List (List H32 × Int)} {s' : RS}, GotN m s K s' → s'.e = false → (∀ k ∈ K, k.1.length ≤ 4) → K = kK s m ∧ s' = kAt s m
  | 0, K, s', h, he, hk => h
  | m + 1, K, s', h, he, hk => by
    obtain ⟨K', t, l, need, h1, h2, rfl⟩ := h
    obtain ⟨rfl, rfl, rfl⟩ := h2.same he (hk (l, (need : Int)) (by simp))
    obtain ⟨rfl, rfl⟩ := GotN.same m h1 (key_back he).1 (fun k hk' => hk k (by simp [hk']))
    exact ⟨rfl, rfl⟩
theorem GotN.prog {s : RS} : ∀ (m : Nat) {K : List (List H32 × Int)} {s' : RS}, GotN m s K s' → (kAt s m).e = false → K = kK s m ∧ s' = kAt s m
  | 0, K, s', h, he => h
  | m + 1, K, s', h, he => by
    obtain ⟨K', t, l, need, h1, h2, rfl⟩ := h
    obtain ⟨rfl, rfl⟩ := GotN.prog m h1 (key_back he).1
    obtain ⟨rfl, rfl, rfl⟩ := h2.prog he
    exact ⟨rfl, rfl⟩
def keysB (K : List (List H32 × Int)) : List UInt8 := K.flatMap fun k => keyB k.1 k.2
def rtV (b : List UInt8) : Nat := (kindS 1 b).num.1
def rtX (b : List UInt8) : Nat := ((kindS 1 b).at 1).num.1
def rtS (b : List UInt8) : RS := (kindS 1 b).at 2
def rootB (v e : Int) (K : List (List H32 × Int)) : Bool := verB v && numB e && K.all fun k => isB k.1 k.2
/-- a root's bytes -/
def rootE (v e : Int) (K : List (List H32 × Int)) : List UInt8 := encAll [1] ++ (encAll [v, e] ++ keysB K)
def rtOk (b : List UInt8) : Bool := wholeB (kAt (rtS b) 4) && rootB (rtV b) (rtX b) (kK (rtS b) 4)
end Go.Proofs.YthcleccofccbdaaGreat
end
