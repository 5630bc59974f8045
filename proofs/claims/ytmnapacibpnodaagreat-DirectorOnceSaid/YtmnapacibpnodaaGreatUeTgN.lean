/- TgC, TgM, TgN -/
import Derived.Test.YtmnapacibpnodaaGreatUeTgB
import Derived.Test.YtmnapacibpnodaaGreatUeWuA
import Derived.Test.YtmnapacibpnodaaGreatUeOcRfC
import Derived.Test.YtmnapacibpnodaaGreatUeSnD
import Derived.Test.YtmnapacibpnodaaGreatUeTgA
section
open Go Go.RowKit
namespace Go.Proofs.YtmnapacibpnodaaGreat
def tgE (t : TargetR) : List UInt8 := encRow t.l ++ (encAll [t.size] ++ (t.sum.l ++ (encRow t.hw ++ (encAll [t.ctr] ++ encRow t.ecu))))
theorem run_fld6 (f1 f2 f3 f4 f5 f6 : FuncId) (c1 c2 c3 c4 c5 c6 : Array Value) (w : World) : (Instr.buildSlice 214 6 #[(0, .func (.func f1) #[] c1), (1, .func (.func f2) #[] c2), (2, .func (.func f3) #[] c3), (3, .func (.func f4) #[] c4), (4, .func (.func f5) #[] c5), (5, .func (.func f6) #[] c6)]).run Tryz.prog w = .ok (.slice (some ⟨w.heap.size, 0, none⟩) 6 6) (w.alloc (.cells #[.func (.func f1) #[] c1, .func (.func f2) #[] c2, .func (.func f3) #[] c3, .func (.func f4) #[] c4, .func (.func f5) #[] c5, .func (.func f6) #[] c6] 189)) := by kernel_rfl
/-- six fields, one behind the other -/
theorem fields6 {z c : Nat} {f1 f2 f3 f4 f5 f6 : FuncId} {c1 c2 c3 c4 c5 c6 : Array Value} {T1 T2 T3 T4 T5 T6 : Nat → Prop} {y1 y2 y3 y4 y5 y6 : List UInt8} {w : World} {t : TypeId} [h : HB w z t #[.func (.func f1) #[] c1, .func (.func f2) #[] c2, .func (.func f3) #[] c3, .func (.func f4) #[] c4, .func (.func f5) #[] c5, .func (.func f6) #[] c6]]
    (h1 : Lays w T1 (.func (.func f1) #[] c1) y1) (h2 : Lays w T2 (.func (.func f2) #[] c2) y2) (h3 : Lays w T3 (.func (.func f3) #[] c3) y3) (h4 : Lays w T4 (.func (.func f4) #[] c4) y4) (h5 : Lays w T5 (.func (.func f5) #[] c5) y5) (h6 : Lays w T6 (.func (.func f6) #[] c6) y6) :
    Calls Tryz.prog 120 #[.slice (some ⟨z, 0, none⟩) 6 c] w fun e w' => ∃ f caps T, e = .returned (.func (.func f) #[] caps) ∧ Step nowhere w w' ∧ Lays w' T (.func (.func f) #[] caps) (y1 ++ (y2 ++ (y3 ++ (y4 ++ (y5 ++ y6))))) ∧ ∀ x, T x → w.heap.size ≤ x ∨ x = z ∨ T1 x ∨ T2 x ∨ T3 x ∨ T4 x ∨ T5 x ∨ T6 x := by
  have hr := h.rdL
  refine (fields_calls (A2 := some ⟨z, 0, none⟩) (c := c) (l := [⟨_, T1, y1⟩, ⟨_, T2, y2⟩, ⟨_, T3, y3⟩, ⟨_, T4, y4⟩, ⟨_, T5, y5⟩, ⟨_, T6, y6⟩]) hr rfl (show 6 ≤ 1000000000 by decide) ?_).mono ?_
  · intro f hf
    simp only [List.mem_cons, List.not_mem_nil, or_false] at hf
    rcases hf with rfl | rfl | rfl | rfl | rfl | rfl
    · exact h1
    · exact h2
    · exact h3
    · exact h4
    · exact h5
    · exact h6
  · rintro e w' ⟨f, caps, T, rfl, hs, hL, hT⟩
    refine ⟨f, caps, T, rfl, hs, ?_, fun x hx => ?_⟩
    · have e2 : allYs [⟨Value.func (.func f1) #[] c1, T1, y1⟩, ⟨Value.func (.func f2) #[] c2, T2, y2⟩, ⟨Value.func (.func f3) #[] c3, T3, y3⟩, ⟨Value.func (.func f4) #[] c4, T4, y4⟩, ⟨Value.func (.func f5) #[] c5, T5, y5⟩, ⟨Value.func (.func f6) #[] c6, T6, y6⟩] = y1 ++ (y2 ++ (y3 ++ (y4 ++ (y5 ++ y6)))) := by simp [allYs]
      rwa [e2] at hL
    · rcases hT x hx with h | ⟨_, ad, e, hk⟩ | ⟨f, hf, hk⟩
      · exact .inl h
      · injection e with e
        subst e
        exact .inr (.inl hk.symm)
      · simp only [List.mem_cons, List.not_mem_nil, or_false] at hf
        rcases hf with rfl | rfl | rfl | rfl | rfl | rfl
        · exact .inr (.inr (.inl hk))
        · exact .inr (.inr (.inr (.inl hk)))
        · exact .inr (.inr (.inr (.inr (.inl hk))))
        · exact .inr (.inr (.inr (.inr (.inr (.inl hk)))))
        · exact .inr (.inr (.inr (.inr (.inr (.inr (.inl hk))))))
        · exact .inr (.inr (.inr (.inr (.inr (.inr (.inr hk))))))
set_option maxRecDepth 100000 in
set_option maxHeartbeats 6400000 in
theorem layTarget_calls (t : TargetR) (w : World) :
    Calls Tryz.prog 134 #[.agg (RowC.enc t).toArray] w (FldPost w (tgE t) nowhere) := by
  have hsz : (RowC.enc t).toArray.size = 37 := tgR_len t
  have hon := enc_one t
  unfold FldPost
  go_enter Tryz.func134, Tryz.ntmps134
  go_wp2_with (first | ((with_reducible apply (wpl_box_agg (dst := some 1))); (exact rfl); intro zt wzt _ _ _))
  have hwz := (stepN (w0 := w) (w := wzt)).chg.size
  refine wp_region_N (nowhere) (by kernel_rfl) (fun wd _ _ => ?_)
  refine' takeH (i := 0) (v := _) rfl (by kernel_rfl) (by kernel_rfl) (by kernel_rfl) (fun _ _ _ h => h) (yields_of (by rfl) (fun w' _ => ?_)) inferInstance ?_
  rotate_left
  · (go_simp; try with_reducible rfl)
  try simp only [Act.put, sA]; try simp only [sB, sC]
  refine' takeH (i := 1) (v := _) rfl (by kernel_rfl) (by kernel_rfl) (by kernel_rfl) (fun _ _ _ h => h) (yields_of (by rfl) (fun w' _ => ?_)) inferInstance ?_
  rotate_left
  · ((with_reducible apply (ev_loadcellN (k := 0))); (exact rfl); infer_instance; infer_instance; (exact tgc_0 _))
  try simp only [Act.put, sA]; try simp only [sB, sC]
  refine' takeH (i := 3) (v := _) rfl (by kernel_rfl) (by kernel_rfl) (by kernel_rfl) (fun _ _ _ h => h) (yields_of (by rfl) (fun w' _ => ?_)) inferInstance ?_
  rotate_left
  · (go_simp; try with_reducible rfl)
  try simp only [Act.put, sA]; try simp only [sB, sC]
  refine' takeH (i := 4) (v := _) rfl (by kernel_rfl) (by kernel_rfl) (by kernel_rfl) (fun _ _ _ h => h) (yields_of (by rfl) (fun w' _ => ?_)) inferInstance ?_
  rotate_left
  · ((with_reducible apply (ev_loadcellN (k := 1))); (exact rfl); infer_instance; infer_instance; (exact tgc_1 _))
  try simp only [Act.put, sA]; try simp only [sB, sC]
  refine' takeH (i := 7) (v := _) rfl (by kernel_rfl) (by kernel_rfl) (by kernel_rfl) (fun _ _ _ h => h) (yields_of (by rfl) (fun w' _ => ?_)) inferInstance ?_
  rotate_left
  · (go_simp; try with_reducible rfl)
  try simp only [Act.put, sA]; try simp only [sB, sC]
  refine' takeH (i := 8) (v := _) rfl (by kernel_rfl) (by kernel_rfl) (by kernel_rfl) (fun _ _ _ h => h) (yields_of (by rfl) (fun w' _ => ?_)) inferInstance ?_
  rotate_left
  · ((with_reducible apply ev_loadMid); (exact rfl); infer_instance; infer_instance; (exact tgc_sum _); (exact bs32 _); (decide))
  try simp only [Act.put, sA]; try simp only [sB, sC]
  refine' takeH (i := 10) (v := _) rfl (by kernel_rfl) (by kernel_rfl) (by kernel_rfl) (fun _ _ _ h => h) (yields_of (by rfl) (fun w' _ => ?_)) inferInstance ?_
  rotate_left
  · (go_simp; try with_reducible rfl)
  try simp only [Act.put, sA]; try simp only [sB, sC]
  refine' takeH (i := 11) (v := _) rfl (by kernel_rfl) (by kernel_rfl) (by kernel_rfl) (fun _ _ _ h => h) (yields_of (by rfl) (fun w' _ => ?_)) inferInstance ?_
  rotate_left
  · ((with_reducible apply (ev_loadcellN (k := 34))); (exact rfl); infer_instance; infer_instance; (exact tgc_34 _))
  try simp only [Act.put, sA]; try simp only [sB, sC]
  refine' takeH (i := 13) (v := _) rfl (by kernel_rfl) (by kernel_rfl) (by kernel_rfl) (fun _ _ _ h => h) (yields_of (by rfl) (fun w' _ => ?_)) inferInstance ?_
  rotate_left
  · (go_simp; try with_reducible rfl)
  try simp only [Act.put, sA]; try simp only [sB, sC]
  refine' takeH (i := 14) (v := _) rfl (by kernel_rfl) (by kernel_rfl) (by kernel_rfl) (fun _ _ _ h => h) (yields_of (by rfl) (fun w' _ => ?_)) inferInstance ?_
  rotate_left
  · ((with_reducible apply (ev_loadcellN (k := 35))); (exact rfl); infer_instance; infer_instance; (exact tgc_35 _))
  try simp only [Act.put, sA]; try simp only [sB, sC]
  refine' takeH (i := 17) (v := _) rfl (by kernel_rfl) (by kernel_rfl) (by kernel_rfl) (fun _ _ _ h => h) (yields_of (by rfl) (fun w' _ => ?_)) inferInstance ?_
  rotate_left
  · (go_simp; try with_reducible rfl)
  try simp only [Act.put, sA]; try simp only [sB, sC]
  refine' takeH (i := 18) (v := _) rfl (by kernel_rfl) (by kernel_rfl) (by kernel_rfl) (fun _ _ _ h => h) (yields_of (by rfl) (fun w' _ => ?_)) inferInstance ?_
  rotate_left
  · ((with_reducible apply (ev_loadcellN (k := 36))); (exact rfl); infer_instance; infer_instance; (exact tgc_36 _))
  try simp only [Act.put, sA]; try simp only [sB, sC]
  refine wpAnyH_ready (rs := [2, 5, 15]) (by kernel_rfl) (by simp) (AllReadyH.cons rfl (fun K_ hK_ => ?_) (AllReadyH.cons rfl (fun K_ hK_ => ?_) (AllReadyH.cons rfl (fun K_ hK_ => ?_) AllReadyH.nil)))
  focus
    go_simp
    refine (text_calls (strL t.l) t.l rfl _).mono ?_
    rintro e w5 ⟨f5, caps5, T5, rfl, _, hL5, hT5⟩
    refine hK_.out _ _ inferInstance (fun _ => ?_)
    clear hK_ K_
    try simp only [Act.put, sA]; try simp only [sB, sC]
    refine wpAnyH_ready (rs := [5, 15]) (by kernel_rfl) (by simp) (AllReadyH.cons rfl (fun K_ hK_ => ?_) (AllReadyH.cons rfl (fun K_ hK_ => ?_) AllReadyH.nil))
    focus
      rw [if_pos (by kernel_rfl)]
      refine wpr_of_list ?_
      ((with_reducible apply (stop_dst (dst := some 8))); (try simp only [Act.put, sA, sB, sC]); ((with_reducible apply (wpl_bslice (dst := some 8))); (exact run_int1 _ _); intro zb wb _ _ _))
      refine wpList_nil ?_
      unfold onlyN
      refine hK_.out _ _ inferInstance (fun _ => ?_)
      clear hK_ K_
      try simp only [Act.put, sA]; try simp only [sB, sC]
      refine wpAnyH_ready (rs := [6, 15]) (by kernel_rfl) (by simp) (AllReadyH.cons rfl (fun K_ hK_ => ?_) (AllReadyH.cons rfl (fun K_ hK_ => ?_) AllReadyH.nil))
      focus
        go_simp
        refine (numsC (z := zb) (vs := [t.size]) rfl rfl (show 9 * 1 ≤ 1000000000 by decide)).mono ?_
        rintro e w6 ⟨f6, caps6, T6, rfl, _, hL6, hT6⟩
        have hzb : w.heap.size ≤ zb := (NewA.monoS (w0 := w) (NewA.of_born (z := zb) 0)).out ⟨zb, 0, none⟩ rfl
        refine hK_.out _ _ inferInstance (fun _ => ?_)
        clear hK_ K_
        try simp only [Act.put, sA]; try simp only [sB, sC]
        refine wpAnyH_ready (rs := [9, 15]) (by kernel_rfl) (by simp) (AllReadyH.cons rfl (fun K_ hK_ => ?_) (AllReadyH.cons rfl (fun K_ hK_ => ?_) AllReadyH.nil))
        focus
          go_simp
          refine (fhash_calls t.sum _).mono ?_
          rintro e w7 ⟨f7, caps7, T7, rfl, _, hL7, hT7⟩
          refine hK_.out _ _ inferInstance (fun _ => ?_)
          clear hK_ K_
          try simp only [Act.put, sA]; try simp only [sB, sC]
          refine wpAnyH_ready (rs := [12, 15]) (by kernel_rfl) (by simp) (AllReadyH.cons rfl (fun K_ hK_ => ?_) (AllReadyH.cons rfl (fun K_ hK_ => ?_) AllReadyH.nil))
          focus
            go_simp
            refine (text_calls (strL t.hw) t.hw rfl _).mono ?_
            rintro e w8 ⟨f8, caps8, T8, rfl, _, hL8, hT8⟩
            refine hK_.out _ _ inferInstance (fun _ => ?_)
            clear hK_ K_
            try simp only [Act.put, sA]; try simp only [sB, sC]
            refine goH (i := 15) (by kernel_rfl) rfl (fun K_ hK_ => ?_)
            rw [if_pos (by kernel_rfl)]
            refine wpr_of_list ?_
            ((with_reducible apply (stop_dst (dst := some 18))); (try simp only [Act.put, sA, sB, sC]); ((with_reducible apply (wpl_bslice (dst := some 18))); (exact run_int1 _ _); intro zd wb _ _ _))
            refine wpList_nil ?_
            unfold onlyN
            refine hK_.out _ _ inferInstance (fun _ => ?_)
            clear hK_ K_
            try simp only [Act.put, sA]; try simp only [sB, sC]
            refine goH (i := 16) (by kernel_rfl) rfl (fun K_ hK_ => ?_)
            go_simp
            refine (numsC (z := zd) (vs := [t.ctr]) rfl rfl (show 9 * 1 ≤ 1000000000 by decide)).mono ?_
            rintro e w9 ⟨f9, caps9, T9, rfl, _, hL9, hT9⟩
            have hzd : w.heap.size ≤ zd := (NewA.monoS (w0 := w) (NewA.of_born (z := zd) 0)).out ⟨zd, 0, none⟩ rfl
            refine hK_.out _ _ inferInstance (fun _ => ?_)
            clear hK_ K_
            try simp only [Act.put, sA]; try simp only [sB, sC]
            refine goH (i := 19) (by kernel_rfl) rfl (fun K_ hK_ => ?_)
            go_simp
            refine (text_calls (strL t.ecu) t.ecu rfl _).mono ?_
            rintro e w10 ⟨f10, caps10, T10, rfl, _, hL10, hT10⟩
            refine hK_.out _ _ inferInstance (fun _ => ?_)
            clear hK_ K_
            try simp only [Act.put, sA]; try simp only [sB, sC]
            refine goH (i := 20) (by kernel_rfl) rfl (fun K_ hK_ => ?_)
            rw [if_pos (by kernel_rfl)]
            refine wpr_of_list ?_
            ((with_reducible apply (stop_dst (dst := some 23))); (try simp only [Act.put, sA, sB, sC]); ((with_reducible apply (wpl_bslice (dst := some 23))); (exact run_fld6 _ _ _ _ _ _ _ _ _ _ _ _ _); intro zc wb _ _ _))
            refine wpList_nil ?_
            unfold onlyN
            refine hK_.out _ _ inferInstance (fun _ => ?_)
            clear hK_ K_
            try simp only [Act.put, sA]; try simp only [sB, sC]
            refine goH (i := 21) (by kernel_rfl) rfl (fun K_ hK_ => ?_)
            go_simp
            refine (fields6 (z := zc) (hL5.later (stepN (w0 := w5)).chg (fun _ _ h => h)) (hL6.later (stepN (w0 := w6)).chg (fun _ _ h => h)) (hL7.later (stepN (w0 := w7)).chg (fun _ _ h => h)) (hL8.later (stepN (w0 := w8)).chg (fun _ _ h => h)) (hL9.later (stepN (w0 := w9)).chg (fun _ _ h => h)) (hL10.later (stepN (w0 := w10)).chg (fun _ _ h => h))).mono ?_
            rintro e w11 ⟨f11, caps11, T11, rfl, _, hL11, hT11⟩
            have hzc : w.heap.size ≤ zc := (NewA.monoS (w0 := w) (NewA.of_born (z := zc) 0)).out ⟨zc, 0, none⟩ rfl
            refine hK_.out _ _ inferInstance (fun _ => ?_)
            clear hK_ K_
            try simp only [Act.put, sA]; try simp only [sB, sC]
            refine' takeH (i := 22) (v := _) rfl (by kernel_rfl) (by kernel_rfl) (by kernel_rfl) (fun _ _ _ h => h) (yields_of (by rfl) (fun w' _ => ?_)) inferInstance ?_
            rotate_left
            · (go_simp; try with_reducible rfl)
            try simp only [Act.put, sA]; try simp only [sB, sC]
            refine wpAnyH_done (by kernel_rfl) ?_ _
          rotate_left 1
          focus
            rw [if_pos (by kernel_rfl)]
            refine wpr_of_list ?_
            ((with_reducible apply (stop_dst (dst := some 18))); (try simp only [Act.put, sA, sB, sC]); ((with_reducible apply (wpl_bslice (dst := some 18))); (exact run_int1 _ _); intro zd wb _ _ _))
            refine wpList_nil ?_
            unfold onlyN
            refine hK_.out _ _ inferInstance (fun _ => ?_)
            clear hK_ K_
            try simp only [Act.put, sA]; try simp only [sB, sC]
            refine goH (i := 12) (by kernel_rfl) rfl (fun K_ hK_ => ?_)
            go_simp
            refine (text_calls (strL t.hw) t.hw rfl _).mono ?_
            rintro e w8 ⟨f8, caps8, T8, rfl, _, hL8, hT8⟩
            refine hK_.out _ _ inferInstance (fun _ => ?_)
            clear hK_ K_
            try simp only [Act.put, sA]; try simp only [sB, sC]
            refine goH (i := 16) (by kernel_rfl) rfl (fun K_ hK_ => ?_)
            go_simp
            refine (numsC (z := zd) (vs := [t.ctr]) rfl rfl (show 9 * 1 ≤ 1000000000 by decide)).mono ?_
            rintro e w9 ⟨f9, caps9, T9, rfl, _, hL9, hT9⟩
            have hzd : w.heap.size ≤ zd := (NewA.monoS (w0 := w) (NewA.of_born (z := zd) 0)).out ⟨zd, 0, none⟩ rfl
            refine hK_.out _ _ inferInstance (fun _ => ?_)
            clear hK_ K_
            try simp only [Act.put, sA]; try simp only [sB, sC]
            refine goH (i := 19) (by kernel_rfl) rfl (fun K_ hK_ => ?_)
            go_simp
            refine (text_calls (strL t.ecu) t.ecu rfl _).mono ?_
            rintro e w10 ⟨f10, caps10, T10, rfl, _, hL10, hT10⟩
            refine hK_.out _ _ inferInstance (fun _ => ?_)
            clear hK_ K_
            try simp only [Act.put, sA]; try simp only [sB, sC]
            refine goH (i := 20) (by kernel_rfl) rfl (fun K_ hK_ => ?_)
            rw [if_pos (by kernel_rfl)]
            refine wpr_of_list ?_
            ((with_reducible apply (stop_dst (dst := some 23))); (try simp only [Act.put, sA, sB, sC]); ((with_reducible apply (wpl_bslice (dst := some 23))); (exact run_fld6 _ _ _ _ _ _ _ _ _ _ _ _ _); intro zc wb _ _ _))
            refine wpList_nil ?_
            unfold onlyN
            refine hK_.out _ _ inferInstance (fun _ => ?_)
            clear hK_ K_
            try simp only [Act.put, sA]; try simp only [sB, sC]
            refine goH (i := 21) (by kernel_rfl) rfl (fun K_ hK_ => ?_)
            go_simp
            refine (fields6 (z := zc) (hL5.later (stepN (w0 := w5)).chg (fun _ _ h => h)) (hL6.later (stepN (w0 := w6)).chg (fun _ _ h => h)) (hL7.later (stepN (w0 := w7)).chg (fun _ _ h => h)) (hL8.later (stepN (w0 := w8)).chg (fun _ _ h => h)) (hL9.later (stepN (w0 := w9)).chg (fun _ _ h => h)) (hL10.later (stepN (w0 := w10)).chg (fun _ _ h => h))).mono ?_
            rintro e w11 ⟨f11, caps11, T11, rfl, _, hL11, hT11⟩
            have hzc : w.heap.size ≤ zc := (NewA.monoS (w0 := w) (NewA.of_born (z := zc) 0)).out ⟨zc, 0, none⟩ rfl
            refine hK_.out _ _ inferInstance (fun _ => ?_)
            clear hK_ K_
            try simp only [Act.put, sA]; try simp only [sB, sC]
            refine' takeH (i := 22) (v := _) rfl (by kernel_rfl) (by kernel_rfl) (by kernel_rfl) (fun _ _ _ h => h) (yields_of (by rfl) (fun w' _ => ?_)) inferInstance ?_
            rotate_left
            · (go_simp; try with_reducible rfl)
            try simp only [Act.put, sA]; try simp only [sB, sC]
            refine wpAnyH_done (by kernel_rfl) ?_ _
          rotate_left 1
        rotate_left 2
        focus
          rw [if_pos (by kernel_rfl)]
          refine wpr_of_list ?_
          ((with_reducible apply (stop_dst (dst := some 18))); (try simp only [Act.put, sA, sB, sC]); ((with_reducible apply (wpl_bslice (dst := some 18))); (exact run_int1 _ _); intro zd wb _ _ _))
          refine wpList_nil ?_
          unfold onlyN
          refine hK_.out _ _ inferInstance (fun _ => ?_)
          clear hK_ K_
          try simp only [Act.put, sA]; try simp only [sB, sC]
          refine goH (i := 9) (by kernel_rfl) rfl (fun K_ hK_ => ?_)
          go_simp
          refine (fhash_calls t.sum _).mono ?_
          rintro e w7 ⟨f7, caps7, T7, rfl, _, hL7, hT7⟩
          refine hK_.out _ _ inferInstance (fun _ => ?_)
          clear hK_ K_
          try simp only [Act.put, sA]; try simp only [sB, sC]
          refine goH (i := 12) (by kernel_rfl) rfl (fun K_ hK_ => ?_)
          go_simp
          refine (text_calls (strL t.hw) t.hw rfl _).mono ?_
          rintro e w8 ⟨f8, caps8, T8, rfl, _, hL8, hT8⟩
          refine hK_.out _ _ inferInstance (fun _ => ?_)
          clear hK_ K_
          try simp only [Act.put, sA]; try simp only [sB, sC]
          refine goH (i := 16) (by kernel_rfl) rfl (fun K_ hK_ => ?_)
          go_simp
          refine (numsC (z := zd) (vs := [t.ctr]) rfl rfl (show 9 * 1 ≤ 1000000000 by decide)).mono ?_
          rintro e w9 ⟨f9, caps9, T9, rfl, _, hL9, hT9⟩
          have hzd : w.heap.size ≤ zd := (NewA.monoS (w0 := w) (NewA.of_born (z := zd) 0)).out ⟨zd, 0, none⟩ rfl
          refine hK_.out _ _ inferInstance (fun _ => ?_)
          clear hK_ K_
          try simp only [Act.put, sA]; try simp only [sB, sC]
          refine goH (i := 19) (by kernel_rfl) rfl (fun K_ hK_ => ?_)
          go_simp
          refine (text_calls (strL t.ecu) t.ecu rfl _).mono ?_
          rintro e w10 ⟨f10, caps10, T10, rfl, _, hL10, hT10⟩
          refine hK_.out _ _ inferInstance (fun _ => ?_)
          clear hK_ K_
          try simp only [Act.put, sA]; try simp only [sB, sC]
          refine goH (i := 20) (by kernel_rfl) rfl (fun K_ hK_ => ?_)
          rw [if_pos (by kernel_rfl)]
          refine wpr_of_list ?_
          ((with_reducible apply (stop_dst (dst := some 23))); (try simp only [Act.put, sA, sB, sC]); ((with_reducible apply (wpl_bslice (dst := some 23))); (exact run_fld6 _ _ _ _ _ _ _ _ _ _ _ _ _); intro zc wb _ _ _))
          refine wpList_nil ?_
          unfold onlyN
          refine hK_.out _ _ inferInstance (fun _ => ?_)
          clear hK_ K_
          try simp only [Act.put, sA]; try simp only [sB, sC]
          refine goH (i := 21) (by kernel_rfl) rfl (fun K_ hK_ => ?_)
          go_simp
          refine (fields6 (z := zc) (hL5.later (stepN (w0 := w5)).chg (fun _ _ h => h)) (hL6.later (stepN (w0 := w6)).chg (fun _ _ h => h)) (hL7.later (stepN (w0 := w7)).chg (fun _ _ h => h)) (hL8.later (stepN (w0 := w8)).chg (fun _ _ h => h)) (hL9.later (stepN (w0 := w9)).chg (fun _ _ h => h)) (hL10.later (stepN (w0 := w10)).chg (fun _ _ h => h))).mono ?_
          rintro e w11 ⟨f11, caps11, T11, rfl, _, hL11, hT11⟩
          have hzc : w.heap.size ≤ zc := (NewA.monoS (w0 := w) (NewA.of_born (z := zc) 0)).out ⟨zc, 0, none⟩ rfl
          refine hK_.out _ _ inferInstance (fun _ => ?_)
          clear hK_ K_
          try simp only [Act.put, sA]; try simp only [sB, sC]
          refine' takeH (i := 22) (v := _) rfl (by kernel_rfl) (by kernel_rfl) (by kernel_rfl) (fun _ _ _ h => h) (yields_of (by rfl) (fun w' _ => ?_)) inferInstance ?_
          rotate_left
          · (go_simp; try with_reducible rfl)
          try simp only [Act.put, sA]; try simp only [sB, sC]
          refine wpAnyH_done (by kernel_rfl) ?_ _
        rotate_left 1
      rotate_left 3
      focus
        rw [if_pos (by kernel_rfl)]
        refine wpr_of_list ?_
        ((with_reducible apply (stop_dst (dst := some 18))); (try simp only [Act.put, sA, sB, sC]); ((with_reducible apply (wpl_bslice (dst := some 18))); (exact run_int1 _ _); intro zd wb _ _ _))
        refine wpList_nil ?_
        unfold onlyN
        refine hK_.out _ _ inferInstance (fun _ => ?_)
        clear hK_ K_
        try simp only [Act.put, sA]; try simp only [sB, sC]
        refine goH (i := 6) (by kernel_rfl) rfl (fun K_ hK_ => ?_)
        go_simp
        refine (numsC (z := zb) (vs := [t.size]) rfl rfl (show 9 * 1 ≤ 1000000000 by decide)).mono ?_
        rintro e w6 ⟨f6, caps6, T6, rfl, _, hL6, hT6⟩
        have hzb : w.heap.size ≤ zb := (NewA.monoS (w0 := w) (NewA.of_born (z := zb) 0)).out ⟨zb, 0, none⟩ rfl
        refine hK_.out _ _ inferInstance (fun _ => ?_)
        clear hK_ K_
        try simp only [Act.put, sA]; try simp only [sB, sC]
        refine goH (i := 9) (by kernel_rfl) rfl (fun K_ hK_ => ?_)
        go_simp
        refine (fhash_calls t.sum _).mono ?_
        rintro e w7 ⟨f7, caps7, T7, rfl, _, hL7, hT7⟩
        refine hK_.out _ _ inferInstance (fun _ => ?_)
        clear hK_ K_
        try simp only [Act.put, sA]; try simp only [sB, sC]
        refine goH (i := 12) (by kernel_rfl) rfl (fun K_ hK_ => ?_)
        go_simp
        refine (text_calls (strL t.hw) t.hw rfl _).mono ?_
        rintro e w8 ⟨f8, caps8, T8, rfl, _, hL8, hT8⟩
        refine hK_.out _ _ inferInstance (fun _ => ?_)
        clear hK_ K_
        try simp only [Act.put, sA]; try simp only [sB, sC]
        refine goH (i := 16) (by kernel_rfl) rfl (fun K_ hK_ => ?_)
        go_simp
        refine (numsC (z := zd) (vs := [t.ctr]) rfl rfl (show 9 * 1 ≤ 1000000000 by decide)).mono ?_
        rintro e w9 ⟨f9, caps9, T9, rfl, _, hL9, hT9⟩
        have hzd : w.heap.size ≤ zd := (NewA.monoS (w0 := w) (NewA.of_born (z := zd) 0)).out ⟨zd, 0, none⟩ rfl
        refine hK_.out _ _ inferInstance (fun _ => ?_)
        clear hK_ K_
        try simp only [Act.put, sA]; try simp only [sB, sC]
        refine goH (i := 19) (by kernel_rfl) rfl (fun K_ hK_ => ?_)
        go_simp
        refine (text_calls (strL t.ecu) t.ecu rfl _).mono ?_
        rintro e w10 ⟨f10, caps10, T10, rfl, _, hL10, hT10⟩
        refine hK_.out _ _ inferInstance (fun _ => ?_)
        clear hK_ K_
        try simp only [Act.put, sA]; try simp only [sB, sC]
        refine goH (i := 20) (by kernel_rfl) rfl (fun K_ hK_ => ?_)
        rw [if_pos (by kernel_rfl)]
        refine wpr_of_list ?_
        ((with_reducible apply (stop_dst (dst := some 23))); (try simp only [Act.put, sA, sB, sC]); ((with_reducible apply (wpl_bslice (dst := some 23))); (exact run_fld6 _ _ _ _ _ _ _ _ _ _ _ _ _); intro zc wb _ _ _))
        refine wpList_nil ?_
        unfold onlyN
        refine hK_.out _ _ inferInstance (fun _ => ?_)
        clear hK_ K_
        try simp only [Act.put, sA]; try simp only [sB, sC]
        refine goH (i := 21) (by kernel_rfl) rfl (fun K_ hK_ => ?_)
        go_simp
        refine (fields6 (z := zc) (hL5.later (stepN (w0 := w5)).chg (fun _ _ h => h)) (hL6.later (stepN (w0 := w6)).chg (fun _ _ h => h)) (hL7.later (stepN (w0 := w7)).chg (fun _ _ h => h)) (hL8.later (stepN (w0 := w8)).chg (fun _ _ h => h)) (hL9.later (stepN (w0 := w9)).chg (fun _ _ h => h)) (hL10.later (stepN (w0 := w10)).chg (fun _ _ h => h))).mono ?_
        rintro e w11 ⟨f11, caps11, T11, rfl, _, hL11, hT11⟩
        have hzc : w.heap.size ≤ zc := (NewA.monoS (w0 := w) (NewA.of_born (z := zc) 0)).out ⟨zc, 0, none⟩ rfl
        refine hK_.out _ _ inferInstance (fun _ => ?_)
        clear hK_ K_
        try simp only [Act.put, sA]; try simp only [sB, sC]
        refine' takeH (i := 22) (v := _) rfl (by kernel_rfl) (by kernel_rfl) (by kernel_rfl) (fun _ _ _ h => h) (yields_of (by rfl) (fun w' _ => ?_)) inferInstance ?_
        rotate_left
        · (go_simp; try with_reducible rfl)
        try simp only [Act.put, sA]; try simp only [sB, sC]
        refine wpAnyH_done (by kernel_rfl) ?_ _
      rotate_left 1
    rotate_left 4
    focus
      rw [if_pos (by kernel_rfl)]
      refine wpr_of_list ?_
      ((with_reducible apply (stop_dst (dst := some 18))); (try simp only [Act.put, sA, sB, sC]); ((with_reducible apply (wpl_bslice (dst := some 18))); (exact run_int1 _ _); intro zd wb _ _ _))
      refine wpList_nil ?_
      unfold onlyN
      refine hK_.out _ _ inferInstance (fun _ => ?_)
      clear hK_ K_
      try simp only [Act.put, sA]; try simp only [sB, sC]
      refine goH (i := 5) (by kernel_rfl) rfl (fun K_ hK_ => ?_)
      rw [if_pos (by kernel_rfl)]
      refine wpr_of_list ?_
      ((with_reducible apply (stop_dst (dst := some 8))); (try simp only [Act.put, sA, sB, sC]); ((with_reducible apply (wpl_bslice (dst := some 8))); (exact run_int1 _ _); intro zb wb _ _ _))
      refine wpList_nil ?_
      unfold onlyN
      refine hK_.out _ _ inferInstance (fun _ => ?_)
      clear hK_ K_
      try simp only [Act.put, sA]; try simp only [sB, sC]
      refine goH (i := 6) (by kernel_rfl) rfl (fun K_ hK_ => ?_)
      go_simp
      refine (numsC (z := zb) (vs := [t.size]) rfl rfl (show 9 * 1 ≤ 1000000000 by decide)).mono ?_
      rintro e w6 ⟨f6, caps6, T6, rfl, _, hL6, hT6⟩
      have hzb : w.heap.size ≤ zb := (NewA.monoS (w0 := w) (NewA.of_born (z := zb) 0)).out ⟨zb, 0, none⟩ rfl
      refine hK_.out _ _ inferInstance (fun _ => ?_)
      clear hK_ K_
      try simp only [Act.put, sA]; try simp only [sB, sC]
      refine goH (i := 9) (by kernel_rfl) rfl (fun K_ hK_ => ?_)
      go_simp
      refine (fhash_calls t.sum _).mono ?_
      rintro e w7 ⟨f7, caps7, T7, rfl, _, hL7, hT7⟩
      refine hK_.out _ _ inferInstance (fun _ => ?_)
      clear hK_ K_
      try simp only [Act.put, sA]; try simp only [sB, sC]
      refine goH (i := 12) (by kernel_rfl) rfl (fun K_ hK_ => ?_)
      go_simp
      refine (text_calls (strL t.hw) t.hw rfl _).mono ?_
      rintro e w8 ⟨f8, caps8, T8, rfl, _, hL8, hT8⟩
      refine hK_.out _ _ inferInstance (fun _ => ?_)
      clear hK_ K_
      try simp only [Act.put, sA]; try simp only [sB, sC]
      refine goH (i := 16) (by kernel_rfl) rfl (fun K_ hK_ => ?_)
      go_simp
      refine (numsC (z := zd) (vs := [t.ctr]) rfl rfl (show 9 * 1 ≤ 1000000000 by decide)).mono ?_
      rintro e w9 ⟨f9, caps9, T9, rfl, _, hL9, hT9⟩
      have hzd : w.heap.size ≤ zd := (NewA.monoS (w0 := w) (NewA.of_born (z := zd) 0)).out ⟨zd, 0, none⟩ rfl
      refine hK_.out _ _ inferInstance (fun _ => ?_)
      clear hK_ K_
      try simp only [Act.put, sA]; try simp only [sB, sC]
      refine goH (i := 19) (by kernel_rfl) rfl (fun K_ hK_ => ?_)
      go_simp
      refine (text_calls (strL t.ecu) t.ecu rfl _).mono ?_
      rintro e w10 ⟨f10, caps10, T10, rfl, _, hL10, hT10⟩
      refine hK_.out _ _ inferInstance (fun _ => ?_)
      clear hK_ K_
      try simp only [Act.put, sA]; try simp only [sB, sC]
      refine goH (i := 20) (by kernel_rfl) rfl (fun K_ hK_ => ?_)
      rw [if_pos (by kernel_rfl)]
      refine wpr_of_list ?_
      ((with_reducible apply (stop_dst (dst := some 23))); (try simp only [Act.put, sA, sB, sC]); ((with_reducible apply (wpl_bslice (dst := some 23))); (exact run_fld6 _ _ _ _ _ _ _ _ _ _ _ _ _); intro zc wb _ _ _))
      refine wpList_nil ?_
      unfold onlyN
      refine hK_.out _ _ inferInstance (fun _ => ?_)
      clear hK_ K_
      try simp only [Act.put, sA]; try simp only [sB, sC]
      refine goH (i := 21) (by kernel_rfl) rfl (fun K_ hK_ => ?_)
      go_simp
      refine (fields6 (z := zc) (hL5.later (stepN (w0 := w5)).chg (fun _ _ h => h)) (hL6.later (stepN (w0 := w6)).chg (fun _ _ h => h)) (hL7.later (stepN (w0 := w7)).chg (fun _ _ h => h)) (hL8.later (stepN (w0 := w8)).chg (fun _ _ h => h)) (hL9.later (stepN (w0 := w9)).chg (fun _ _ h => h)) (hL10.later (stepN (w0 := w10)).chg (fun _ _ h => h))).mono ?_
      rintro e w11 ⟨f11, caps11, T11, rfl, _, hL11, hT11⟩
      have hzc : w.heap.size ≤ zc := (NewA.monoS (w0 := w) (NewA.of_born (z := zc) 0)).out ⟨zc, 0, none⟩ rfl
      refine hK_.out _ _ inferInstance (fun _ => ?_)
      clear hK_ K_
      try simp only [Act.put, sA]; try simp only [sB, sC]
      refine' takeH (i := 22) (v := _) rfl (by kernel_rfl) (by kernel_rfl) (by kernel_rfl) (fun _ _ _ h => h) (yields_of (by rfl) (fun w' _ => ?_)) inferInstance ?_
      rotate_left
      · (go_simp; try with_reducible rfl)
      try simp only [Act.put, sA]; try simp only [sB, sC]
      refine wpAnyH_done (by kernel_rfl) ?_ _
    rotate_left 1
  rotate_left 5
  focus
    rw [if_pos (by kernel_rfl)]
    refine wpr_of_list ?_
    ((with_reducible apply (stop_dst (dst := some 8))); (try simp only [Act.put, sA, sB, sC]); ((with_reducible apply (wpl_bslice (dst := some 8))); (exact run_int1 _ _); intro zb wb _ _ _))
    refine wpList_nil ?_
    unfold onlyN
    refine hK_.out _ _ inferInstance (fun _ => ?_)
    clear hK_ K_
    try simp only [Act.put, sA]; try simp only [sB, sC]
    refine wpAnyH_ready (rs := [2, 15]) (by kernel_rfl) (by simp) (AllReadyH.cons rfl (fun K_ hK_ => ?_) (AllReadyH.cons rfl (fun K_ hK_ => ?_) AllReadyH.nil))
    focus
      go_simp
      refine (text_calls (strL t.l) t.l rfl _).mono ?_
      rintro e w5 ⟨f5, caps5, T5, rfl, _, hL5, hT5⟩
      refine hK_.out _ _ inferInstance (fun _ => ?_)
      clear hK_ K_
      try simp only [Act.put, sA]; try simp only [sB, sC]
      refine wpAnyH_ready (rs := [6, 15]) (by kernel_rfl) (by simp) (AllReadyH.cons rfl (fun K_ hK_ => ?_) (AllReadyH.cons rfl (fun K_ hK_ => ?_) AllReadyH.nil))
      focus
        go_simp
        refine (numsC (z := zb) (vs := [t.size]) rfl rfl (show 9 * 1 ≤ 1000000000 by decide)).mono ?_
        rintro e w6 ⟨f6, caps6, T6, rfl, _, hL6, hT6⟩
        have hzb : w.heap.size ≤ zb := (NewA.monoS (w0 := w) (NewA.of_born (z := zb) 0)).out ⟨zb, 0, none⟩ rfl
        refine hK_.out _ _ inferInstance (fun _ => ?_)
        clear hK_ K_
        try simp only [Act.put, sA]; try simp only [sB, sC]
        refine wpAnyH_ready (rs := [9, 15]) (by kernel_rfl) (by simp) (AllReadyH.cons rfl (fun K_ hK_ => ?_) (AllReadyH.cons rfl (fun K_ hK_ => ?_) AllReadyH.nil))
        focus
          go_simp
          refine (fhash_calls t.sum _).mono ?_
          rintro e w7 ⟨f7, caps7, T7, rfl, _, hL7, hT7⟩
          refine hK_.out _ _ inferInstance (fun _ => ?_)
          clear hK_ K_
          try simp only [Act.put, sA]; try simp only [sB, sC]
          refine wpAnyH_ready (rs := [12, 15]) (by kernel_rfl) (by simp) (AllReadyH.cons rfl (fun K_ hK_ => ?_) (AllReadyH.cons rfl (fun K_ hK_ => ?_) AllReadyH.nil))
          focus
            go_simp
            refine (text_calls (strL t.hw) t.hw rfl _).mono ?_
            rintro e w8 ⟨f8, caps8, T8, rfl, _, hL8, hT8⟩
            refine hK_.out _ _ inferInstance (fun _ => ?_)
            clear hK_ K_
            try simp only [Act.put, sA]; try simp only [sB, sC]
            refine goH (i := 15) (by kernel_rfl) rfl (fun K_ hK_ => ?_)
            rw [if_pos (by kernel_rfl)]
            refine wpr_of_list ?_
            ((with_reducible apply (stop_dst (dst := some 18))); (try simp only [Act.put, sA, sB, sC]); ((with_reducible apply (wpl_bslice (dst := some 18))); (exact run_int1 _ _); intro zd wb _ _ _))
            refine wpList_nil ?_
            unfold onlyN
            refine hK_.out _ _ inferInstance (fun _ => ?_)
            clear hK_ K_
            try simp only [Act.put, sA]; try simp only [sB, sC]
            refine goH (i := 16) (by kernel_rfl) rfl (fun K_ hK_ => ?_)
            go_simp
            refine (numsC (z := zd) (vs := [t.ctr]) rfl rfl (show 9 * 1 ≤ 1000000000 by decide)).mono ?_
            rintro e w9 ⟨f9, caps9, T9, rfl, _, hL9, hT9⟩
            have hzd : w.heap.size ≤ zd := (NewA.monoS (w0 := w) (NewA.of_born (z := zd) 0)).out ⟨zd, 0, none⟩ rfl
            refine hK_.out _ _ inferInstance (fun _ => ?_)
            clear hK_ K_
            try simp only [Act.put, sA]; try simp only [sB, sC]
            refine goH (i := 19) (by kernel_rfl) rfl (fun K_ hK_ => ?_)
            go_simp
            refine (text_calls (strL t.ecu) t.ecu rfl _).mono ?_
            rintro e w10 ⟨f10, caps10, T10, rfl, _, hL10, hT10⟩
            refine hK_.out _ _ inferInstance (fun _ => ?_)
            clear hK_ K_
            try simp only [Act.put, sA]; try simp only [sB, sC]
            refine goH (i := 20) (by kernel_rfl) rfl (fun K_ hK_ => ?_)
            rw [if_pos (by kernel_rfl)]
            refine wpr_of_list ?_
            ((with_reducible apply (stop_dst (dst := some 23))); (try simp only [Act.put, sA, sB, sC]); ((with_reducible apply (wpl_bslice (dst := some 23))); (exact run_fld6 _ _ _ _ _ _ _ _ _ _ _ _ _); intro zc wb _ _ _))
            refine wpList_nil ?_
            unfold onlyN
            refine hK_.out _ _ inferInstance (fun _ => ?_)
            clear hK_ K_
            try simp only [Act.put, sA]; try simp only [sB, sC]
            refine goH (i := 21) (by kernel_rfl) rfl (fun K_ hK_ => ?_)
            go_simp
            refine (fields6 (z := zc) (hL5.later (stepN (w0 := w5)).chg (fun _ _ h => h)) (hL6.later (stepN (w0 := w6)).chg (fun _ _ h => h)) (hL7.later (stepN (w0 := w7)).chg (fun _ _ h => h)) (hL8.later (stepN (w0 := w8)).chg (fun _ _ h => h)) (hL9.later (stepN (w0 := w9)).chg (fun _ _ h => h)) (hL10.later (stepN (w0 := w10)).chg (fun _ _ h => h))).mono ?_
            rintro e w11 ⟨f11, caps11, T11, rfl, _, hL11, hT11⟩
            have hzc : w.heap.size ≤ zc := (NewA.monoS (w0 := w) (NewA.of_born (z := zc) 0)).out ⟨zc, 0, none⟩ rfl
            refine hK_.out _ _ inferInstance (fun _ => ?_)
            clear hK_ K_
            try simp only [Act.put, sA]; try simp only [sB, sC]
            refine' takeH (i := 22) (v := _) rfl (by kernel_rfl) (by kernel_rfl) (by kernel_rfl) (fun _ _ _ h => h) (yields_of (by rfl) (fun w' _ => ?_)) inferInstance ?_
            rotate_left
            · (go_simp; try with_reducible rfl)
            try simp only [Act.put, sA]; try simp only [sB, sC]
            refine wpAnyH_done (by kernel_rfl) ?_ _
          rotate_left 1
          focus
            rw [if_pos (by kernel_rfl)]
            refine wpr_of_list ?_
            ((with_reducible apply (stop_dst (dst := some 18))); (try simp only [Act.put, sA, sB, sC]); ((with_reducible apply (wpl_bslice (dst := some 18))); (exact run_int1 _ _); intro zd wb _ _ _))
            refine wpList_nil ?_
            unfold onlyN
            refine hK_.out _ _ inferInstance (fun _ => ?_)
            clear hK_ K_
            try simp only [Act.put, sA]; try simp only [sB, sC]
            refine goH (i := 12) (by kernel_rfl) rfl (fun K_ hK_ => ?_)
            go_simp
            refine (text_calls (strL t.hw) t.hw rfl _).mono ?_
            rintro e w8 ⟨f8, caps8, T8, rfl, _, hL8, hT8⟩
            refine hK_.out _ _ inferInstance (fun _ => ?_)
            clear hK_ K_
            try simp only [Act.put, sA]; try simp only [sB, sC]
            refine goH (i := 16) (by kernel_rfl) rfl (fun K_ hK_ => ?_)
            go_simp
            refine (numsC (z := zd) (vs := [t.ctr]) rfl rfl (show 9 * 1 ≤ 1000000000 by decide)).mono ?_
            rintro e w9 ⟨f9, caps9, T9, rfl, _, hL9, hT9⟩
            have hzd : w.heap.size ≤ zd := (NewA.monoS (w0 := w) (NewA.of_born (z := zd) 0)).out ⟨zd, 0, none⟩ rfl
            refine hK_.out _ _ inferInstance (fun _ => ?_)
            clear hK_ K_
            try simp only [Act.put, sA]; try simp only [sB, sC]
            refine goH (i := 19) (by kernel_rfl) rfl (fun K_ hK_ => ?_)
            go_simp
            refine (text_calls (strL t.ecu) t.ecu rfl _).mono ?_
            rintro e w10 ⟨f10, caps10, T10, rfl, _, hL10, hT10⟩
            refine hK_.out _ _ inferInstance (fun _ => ?_)
            clear hK_ K_
            try simp only [Act.put, sA]; try simp only [sB, sC]
            refine goH (i := 20) (by kernel_rfl) rfl (fun K_ hK_ => ?_)
            rw [if_pos (by kernel_rfl)]
            refine wpr_of_list ?_
            ((with_reducible apply (stop_dst (dst := some 23))); (try simp only [Act.put, sA, sB, sC]); ((with_reducible apply (wpl_bslice (dst := some 23))); (exact run_fld6 _ _ _ _ _ _ _ _ _ _ _ _ _); intro zc wb _ _ _))
            refine wpList_nil ?_
            unfold onlyN
            refine hK_.out _ _ inferInstance (fun _ => ?_)
            clear hK_ K_
            try simp only [Act.put, sA]; try simp only [sB, sC]
            refine goH (i := 21) (by kernel_rfl) rfl (fun K_ hK_ => ?_)
            go_simp
            refine (fields6 (z := zc) (hL5.later (stepN (w0 := w5)).chg (fun _ _ h => h)) (hL6.later (stepN (w0 := w6)).chg (fun _ _ h => h)) (hL7.later (stepN (w0 := w7)).chg (fun _ _ h => h)) (hL8.later (stepN (w0 := w8)).chg (fun _ _ h => h)) (hL9.later (stepN (w0 := w9)).chg (fun _ _ h => h)) (hL10.later (stepN (w0 := w10)).chg (fun _ _ h => h))).mono ?_
            rintro e w11 ⟨f11, caps11, T11, rfl, _, hL11, hT11⟩
            have hzc : w.heap.size ≤ zc := (NewA.monoS (w0 := w) (NewA.of_born (z := zc) 0)).out ⟨zc, 0, none⟩ rfl
            refine hK_.out _ _ inferInstance (fun _ => ?_)
            clear hK_ K_
            try simp only [Act.put, sA]; try simp only [sB, sC]
            refine' takeH (i := 22) (v := _) rfl (by kernel_rfl) (by kernel_rfl) (by kernel_rfl) (fun _ _ _ h => h) (yields_of (by rfl) (fun w' _ => ?_)) inferInstance ?_
            rotate_left
            · (go_simp; try with_reducible rfl)
            try simp only [Act.put, sA]; try simp only [sB, sC]
            refine wpAnyH_done (by kernel_rfl) ?_ _
          rotate_left 1
        rotate_left 2
        focus
          rw [if_pos (by kernel_rfl)]
          refine wpr_of_list ?_
          ((with_reducible apply (stop_dst (dst := some 18))); (try simp only [Act.put, sA, sB, sC]); ((with_reducible apply (wpl_bslice (dst := some 18))); (exact run_int1 _ _); intro zd wb _ _ _))
          refine wpList_nil ?_
          unfold onlyN
          refine hK_.out _ _ inferInstance (fun _ => ?_)
          clear hK_ K_
          try simp only [Act.put, sA]; try simp only [sB, sC]
          refine goH (i := 9) (by kernel_rfl) rfl (fun K_ hK_ => ?_)
          go_simp
          refine (fhash_calls t.sum _).mono ?_
          rintro e w7 ⟨f7, caps7, T7, rfl, _, hL7, hT7⟩
          refine hK_.out _ _ inferInstance (fun _ => ?_)
          clear hK_ K_
          try simp only [Act.put, sA]; try simp only [sB, sC]
          refine goH (i := 12) (by kernel_rfl) rfl (fun K_ hK_ => ?_)
          go_simp
          refine (text_calls (strL t.hw) t.hw rfl _).mono ?_
          rintro e w8 ⟨f8, caps8, T8, rfl, _, hL8, hT8⟩
          refine hK_.out _ _ inferInstance (fun _ => ?_)
          clear hK_ K_
          try simp only [Act.put, sA]; try simp only [sB, sC]
          refine goH (i := 16) (by kernel_rfl) rfl (fun K_ hK_ => ?_)
          go_simp
          refine (numsC (z := zd) (vs := [t.ctr]) rfl rfl (show 9 * 1 ≤ 1000000000 by decide)).mono ?_
          rintro e w9 ⟨f9, caps9, T9, rfl, _, hL9, hT9⟩
          have hzd : w.heap.size ≤ zd := (NewA.monoS (w0 := w) (NewA.of_born (z := zd) 0)).out ⟨zd, 0, none⟩ rfl
          refine hK_.out _ _ inferInstance (fun _ => ?_)
          clear hK_ K_
          try simp only [Act.put, sA]; try simp only [sB, sC]
          refine goH (i := 19) (by kernel_rfl) rfl (fun K_ hK_ => ?_)
          go_simp
          refine (text_calls (strL t.ecu) t.ecu rfl _).mono ?_
          rintro e w10 ⟨f10, caps10, T10, rfl, _, hL10, hT10⟩
          refine hK_.out _ _ inferInstance (fun _ => ?_)
          clear hK_ K_
          try simp only [Act.put, sA]; try simp only [sB, sC]
          refine goH (i := 20) (by kernel_rfl) rfl (fun K_ hK_ => ?_)
          rw [if_pos (by kernel_rfl)]
          refine wpr_of_list ?_
          ((with_reducible apply (stop_dst (dst := some 23))); (try simp only [Act.put, sA, sB, sC]); ((with_reducible apply (wpl_bslice (dst := some 23))); (exact run_fld6 _ _ _ _ _ _ _ _ _ _ _ _ _); intro zc wb _ _ _))
          refine wpList_nil ?_
          unfold onlyN
          refine hK_.out _ _ inferInstance (fun _ => ?_)
          clear hK_ K_
          try simp only [Act.put, sA]; try simp only [sB, sC]
          refine goH (i := 21) (by kernel_rfl) rfl (fun K_ hK_ => ?_)
          go_simp
          refine (fields6 (z := zc) (hL5.later (stepN (w0 := w5)).chg (fun _ _ h => h)) (hL6.later (stepN (w0 := w6)).chg (fun _ _ h => h)) (hL7.later (stepN (w0 := w7)).chg (fun _ _ h => h)) (hL8.later (stepN (w0 := w8)).chg (fun _ _ h => h)) (hL9.later (stepN (w0 := w9)).chg (fun _ _ h => h)) (hL10.later (stepN (w0 := w10)).chg (fun _ _ h => h))).mono ?_
          rintro e w11 ⟨f11, caps11, T11, rfl, _, hL11, hT11⟩
          have hzc : w.heap.size ≤ zc := (NewA.monoS (w0 := w) (NewA.of_born (z := zc) 0)).out ⟨zc, 0, none⟩ rfl
          refine hK_.out _ _ inferInstance (fun _ => ?_)
          clear hK_ K_
          try simp only [Act.put, sA]; try simp only [sB, sC]
          refine' takeH (i := 22) (v := _) rfl (by kernel_rfl) (by kernel_rfl) (by kernel_rfl) (fun _ _ _ h => h) (yields_of (by rfl) (fun w' _ => ?_)) inferInstance ?_
          rotate_left
          · (go_simp; try with_reducible rfl)
          try simp only [Act.put, sA]; try simp only [sB, sC]
          refine wpAnyH_done (by kernel_rfl) ?_ _
        rotate_left 1
      rotate_left 3
      focus
        rw [if_pos (by kernel_rfl)]
        refine wpr_of_list ?_
        ((with_reducible apply (stop_dst (dst := some 18))); (try simp only [Act.put, sA, sB, sC]); ((with_reducible apply (wpl_bslice (dst := some 18))); (exact run_int1 _ _); intro zd wb _ _ _))
        refine wpList_nil ?_
        unfold onlyN
        refine hK_.out _ _ inferInstance (fun _ => ?_)
        clear hK_ K_
        try simp only [Act.put, sA]; try simp only [sB, sC]
        refine goH (i := 6) (by kernel_rfl) rfl (fun K_ hK_ => ?_)
        go_simp
        refine (numsC (z := zb) (vs := [t.size]) rfl rfl (show 9 * 1 ≤ 1000000000 by decide)).mono ?_
        rintro e w6 ⟨f6, caps6, T6, rfl, _, hL6, hT6⟩
        have hzb : w.heap.size ≤ zb := (NewA.monoS (w0 := w) (NewA.of_born (z := zb) 0)).out ⟨zb, 0, none⟩ rfl
        refine hK_.out _ _ inferInstance (fun _ => ?_)
        clear hK_ K_
        try simp only [Act.put, sA]; try simp only [sB, sC]
        refine goH (i := 9) (by kernel_rfl) rfl (fun K_ hK_ => ?_)
        go_simp
        refine (fhash_calls t.sum _).mono ?_
        rintro e w7 ⟨f7, caps7, T7, rfl, _, hL7, hT7⟩
        refine hK_.out _ _ inferInstance (fun _ => ?_)
        clear hK_ K_
        try simp only [Act.put, sA]; try simp only [sB, sC]
        refine goH (i := 12) (by kernel_rfl) rfl (fun K_ hK_ => ?_)
        go_simp
        refine (text_calls (strL t.hw) t.hw rfl _).mono ?_
        rintro e w8 ⟨f8, caps8, T8, rfl, _, hL8, hT8⟩
        refine hK_.out _ _ inferInstance (fun _ => ?_)
        clear hK_ K_
        try simp only [Act.put, sA]; try simp only [sB, sC]
        refine goH (i := 16) (by kernel_rfl) rfl (fun K_ hK_ => ?_)
        go_simp
        refine (numsC (z := zd) (vs := [t.ctr]) rfl rfl (show 9 * 1 ≤ 1000000000 by decide)).mono ?_
        rintro e w9 ⟨f9, caps9, T9, rfl, _, hL9, hT9⟩
        have hzd : w.heap.size ≤ zd := (NewA.monoS (w0 := w) (NewA.of_born (z := zd) 0)).out ⟨zd, 0, none⟩ rfl
        refine hK_.out _ _ inferInstance (fun _ => ?_)
        clear hK_ K_
        try simp only [Act.put, sA]; try simp only [sB, sC]
        refine goH (i := 19) (by kernel_rfl) rfl (fun K_ hK_ => ?_)
        go_simp
        refine (text_calls (strL t.ecu) t.ecu rfl _).mono ?_
        rintro e w10 ⟨f10, caps10, T10, rfl, _, hL10, hT10⟩
        refine hK_.out _ _ inferInstance (fun _ => ?_)
        clear hK_ K_
        try simp only [Act.put, sA]; try simp only [sB, sC]
        refine goH (i := 20) (by kernel_rfl) rfl (fun K_ hK_ => ?_)
        rw [if_pos (by kernel_rfl)]
        refine wpr_of_list ?_
        ((with_reducible apply (stop_dst (dst := some 23))); (try simp only [Act.put, sA, sB, sC]); ((with_reducible apply (wpl_bslice (dst := some 23))); (exact run_fld6 _ _ _ _ _ _ _ _ _ _ _ _ _); intro zc wb _ _ _))
        refine wpList_nil ?_
        unfold onlyN
        refine hK_.out _ _ inferInstance (fun _ => ?_)
        clear hK_ K_
        try simp only [Act.put, sA]; try simp only [sB, sC]
        refine goH (i := 21) (by kernel_rfl) rfl (fun K_ hK_ => ?_)
        go_simp
        refine (fields6 (z := zc) (hL5.later (stepN (w0 := w5)).chg (fun _ _ h => h)) (hL6.later (stepN (w0 := w6)).chg (fun _ _ h => h)) (hL7.later (stepN (w0 := w7)).chg (fun _ _ h => h)) (hL8.later (stepN (w0 := w8)).chg (fun _ _ h => h)) (hL9.later (stepN (w0 := w9)).chg (fun _ _ h => h)) (hL10.later (stepN (w0 := w10)).chg (fun _ _ h => h))).mono ?_
        rintro e w11 ⟨f11, caps11, T11, rfl, _, hL11, hT11⟩
        have hzc : w.heap.size ≤ zc := (NewA.monoS (w0 := w) (NewA.of_born (z := zc) 0)).out ⟨zc, 0, none⟩ rfl
        refine hK_.out _ _ inferInstance (fun _ => ?_)
        clear hK_ K_
        try simp only [Act.put, sA]; try simp only [sB, sC]
        refine' takeH (i := 22) (v := _) rfl (by kernel_rfl) (by kernel_rfl) (by kernel_rfl) (fun _ _ _ h => h) (yields_of (by rfl) (fun w' _ => ?_)) inferInstance ?_
        rotate_left
        · (go_simp; try with_reducible rfl)
        try simp only [Act.put, sA]; try simp only [sB, sC]
        refine wpAnyH_done (by kernel_rfl) ?_ _
      rotate_left 1
    rotate_left 4
    focus
      rw [if_pos (by kernel_rfl)]
      refine wpr_of_list ?_
      ((with_reducible apply (stop_dst (dst := some 18))); (try simp only [Act.put, sA, sB, sC]); ((with_reducible apply (wpl_bslice (dst := some 18))); (exact run_int1 _ _); intro zd wb _ _ _))
      refine wpList_nil ?_
      unfold onlyN
      refine hK_.out _ _ inferInstance (fun _ => ?_)
      clear hK_ K_
      try simp only [Act.put, sA]; try simp only [sB, sC]
      refine goH (i := 2) (by kernel_rfl) rfl (fun K_ hK_ => ?_)
      go_simp
      refine (text_calls (strL t.l) t.l rfl _).mono ?_
      rintro e w5 ⟨f5, caps5, T5, rfl, _, hL5, hT5⟩
      refine hK_.out _ _ inferInstance (fun _ => ?_)
      clear hK_ K_
      try simp only [Act.put, sA]; try simp only [sB, sC]
      refine goH (i := 6) (by kernel_rfl) rfl (fun K_ hK_ => ?_)
      go_simp
      refine (numsC (z := zb) (vs := [t.size]) rfl rfl (show 9 * 1 ≤ 1000000000 by decide)).mono ?_
      rintro e w6 ⟨f6, caps6, T6, rfl, _, hL6, hT6⟩
      have hzb : w.heap.size ≤ zb := (NewA.monoS (w0 := w) (NewA.of_born (z := zb) 0)).out ⟨zb, 0, none⟩ rfl
      refine hK_.out _ _ inferInstance (fun _ => ?_)
      clear hK_ K_
      try simp only [Act.put, sA]; try simp only [sB, sC]
      refine goH (i := 9) (by kernel_rfl) rfl (fun K_ hK_ => ?_)
      go_simp
      refine (fhash_calls t.sum _).mono ?_
      rintro e w7 ⟨f7, caps7, T7, rfl, _, hL7, hT7⟩
      refine hK_.out _ _ inferInstance (fun _ => ?_)
      clear hK_ K_
      try simp only [Act.put, sA]; try simp only [sB, sC]
      refine goH (i := 12) (by kernel_rfl) rfl (fun K_ hK_ => ?_)
      go_simp
      refine (text_calls (strL t.hw) t.hw rfl _).mono ?_
      rintro e w8 ⟨f8, caps8, T8, rfl, _, hL8, hT8⟩
      refine hK_.out _ _ inferInstance (fun _ => ?_)
      clear hK_ K_
      try simp only [Act.put, sA]; try simp only [sB, sC]
      refine goH (i := 16) (by kernel_rfl) rfl (fun K_ hK_ => ?_)
      go_simp
      refine (numsC (z := zd) (vs := [t.ctr]) rfl rfl (show 9 * 1 ≤ 1000000000 by decide)).mono ?_
      rintro e w9 ⟨f9, caps9, T9, rfl, _, hL9, hT9⟩
      have hzd : w.heap.size ≤ zd := (NewA.monoS (w0 := w) (NewA.of_born (z := zd) 0)).out ⟨zd, 0, none⟩ rfl
      refine hK_.out _ _ inferInstance (fun _ => ?_)
      clear hK_ K_
      try simp only [Act.put, sA]; try simp only [sB, sC]
      refine goH (i := 19) (by kernel_rfl) rfl (fun K_ hK_ => ?_)
      go_simp
      refine (text_calls (strL t.ecu) t.ecu rfl _).mono ?_
      rintro e w10 ⟨f10, caps10, T10, rfl, _, hL10, hT10⟩
      refine hK_.out _ _ inferInstance (fun _ => ?_)
      clear hK_ K_
      try simp only [Act.put, sA]; try simp only [sB, sC]
      refine goH (i := 20) (by kernel_rfl) rfl (fun K_ hK_ => ?_)
      rw [if_pos (by kernel_rfl)]
      refine wpr_of_list ?_
      ((with_reducible apply (stop_dst (dst := some 23))); (try simp only [Act.put, sA, sB, sC]); ((with_reducible apply (wpl_bslice (dst := some 23))); (exact run_fld6 _ _ _ _ _ _ _ _ _ _ _ _ _); intro zc wb _ _ _))
      refine wpList_nil ?_
      unfold onlyN
      refine hK_.out _ _ inferInstance (fun _ => ?_)
      clear hK_ K_
      try simp only [Act.put, sA]; try simp only [sB, sC]
      refine goH (i := 21) (by kernel_rfl) rfl (fun K_ hK_ => ?_)
      go_simp
      refine (fields6 (z := zc) (hL5.later (stepN (w0 := w5)).chg (fun _ _ h => h)) (hL6.later (stepN (w0 := w6)).chg (fun _ _ h => h)) (hL7.later (stepN (w0 := w7)).chg (fun _ _ h => h)) (hL8.later (stepN (w0 := w8)).chg (fun _ _ h => h)) (hL9.later (stepN (w0 := w9)).chg (fun _ _ h => h)) (hL10.later (stepN (w0 := w10)).chg (fun _ _ h => h))).mono ?_
      rintro e w11 ⟨f11, caps11, T11, rfl, _, hL11, hT11⟩
      have hzc : w.heap.size ≤ zc := (NewA.monoS (w0 := w) (NewA.of_born (z := zc) 0)).out ⟨zc, 0, none⟩ rfl
      refine hK_.out _ _ inferInstance (fun _ => ?_)
      clear hK_ K_
      try simp only [Act.put, sA]; try simp only [sB, sC]
      refine' takeH (i := 22) (v := _) rfl (by kernel_rfl) (by kernel_rfl) (by kernel_rfl) (fun _ _ _ h => h) (yields_of (by rfl) (fun w' _ => ?_)) inferInstance ?_
      rotate_left
      · (go_simp; try with_reducible rfl)
      try simp only [Act.put, sA]; try simp only [sB, sC]
      refine wpAnyH_done (by kernel_rfl) ?_ _
    rotate_left 1
  rotate_left 5
  focus
    rw [if_pos (by kernel_rfl)]
    refine wpr_of_list ?_
    ((with_reducible apply (stop_dst (dst := some 18))); (try simp only [Act.put, sA, sB, sC]); ((with_reducible apply (wpl_bslice (dst := some 18))); (exact run_int1 _ _); intro zd wb _ _ _))
    refine wpList_nil ?_
    unfold onlyN
    refine hK_.out _ _ inferInstance (fun _ => ?_)
    clear hK_ K_
    try simp only [Act.put, sA]; try simp only [sB, sC]
    refine wpAnyH_ready (rs := [2, 5]) (by kernel_rfl) (by simp) (AllReadyH.cons rfl (fun K_ hK_ => ?_) (AllReadyH.cons rfl (fun K_ hK_ => ?_) AllReadyH.nil))
    focus
      go_simp
      refine (text_calls (strL t.l) t.l rfl _).mono ?_
      rintro e w5 ⟨f5, caps5, T5, rfl, _, hL5, hT5⟩
      refine hK_.out _ _ inferInstance (fun _ => ?_)
      clear hK_ K_
      try simp only [Act.put, sA]; try simp only [sB, sC]
      refine goH (i := 5) (by kernel_rfl) rfl (fun K_ hK_ => ?_)
      rw [if_pos (by kernel_rfl)]
      refine wpr_of_list ?_
      ((with_reducible apply (stop_dst (dst := some 8))); (try simp only [Act.put, sA, sB, sC]); ((with_reducible apply (wpl_bslice (dst := some 8))); (exact run_int1 _ _); intro zb wb _ _ _))
      refine wpList_nil ?_
      unfold onlyN
      refine hK_.out _ _ inferInstance (fun _ => ?_)
      clear hK_ K_
      try simp only [Act.put, sA]; try simp only [sB, sC]
      refine goH (i := 6) (by kernel_rfl) rfl (fun K_ hK_ => ?_)
      go_simp
      refine (numsC (z := zb) (vs := [t.size]) rfl rfl (show 9 * 1 ≤ 1000000000 by decide)).mono ?_
      rintro e w6 ⟨f6, caps6, T6, rfl, _, hL6, hT6⟩
      have hzb : w.heap.size ≤ zb := (NewA.monoS (w0 := w) (NewA.of_born (z := zb) 0)).out ⟨zb, 0, none⟩ rfl
      refine hK_.out _ _ inferInstance (fun _ => ?_)
      clear hK_ K_
      try simp only [Act.put, sA]; try simp only [sB, sC]
      refine goH (i := 9) (by kernel_rfl) rfl (fun K_ hK_ => ?_)
      go_simp
      refine (fhash_calls t.sum _).mono ?_
      rintro e w7 ⟨f7, caps7, T7, rfl, _, hL7, hT7⟩
      refine hK_.out _ _ inferInstance (fun _ => ?_)
      clear hK_ K_
      try simp only [Act.put, sA]; try simp only [sB, sC]
      refine goH (i := 12) (by kernel_rfl) rfl (fun K_ hK_ => ?_)
      go_simp
      refine (text_calls (strL t.hw) t.hw rfl _).mono ?_
      rintro e w8 ⟨f8, caps8, T8, rfl, _, hL8, hT8⟩
      refine hK_.out _ _ inferInstance (fun _ => ?_)
      clear hK_ K_
      try simp only [Act.put, sA]; try simp only [sB, sC]
      refine goH (i := 16) (by kernel_rfl) rfl (fun K_ hK_ => ?_)
      go_simp
      refine (numsC (z := zd) (vs := [t.ctr]) rfl rfl (show 9 * 1 ≤ 1000000000 by decide)).mono ?_
      rintro e w9 ⟨f9, caps9, T9, rfl, _, hL9, hT9⟩
      have hzd : w.heap.size ≤ zd := (NewA.monoS (w0 := w) (NewA.of_born (z := zd) 0)).out ⟨zd, 0, none⟩ rfl
      refine hK_.out _ _ inferInstance (fun _ => ?_)
      clear hK_ K_
      try simp only [Act.put, sA]; try simp only [sB, sC]
      refine goH (i := 19) (by kernel_rfl) rfl (fun K_ hK_ => ?_)
      go_simp
      refine (text_calls (strL t.ecu) t.ecu rfl _).mono ?_
      rintro e w10 ⟨f10, caps10, T10, rfl, _, hL10, hT10⟩
      refine hK_.out _ _ inferInstance (fun _ => ?_)
      clear hK_ K_
      try simp only [Act.put, sA]; try simp only [sB, sC]
      refine goH (i := 20) (by kernel_rfl) rfl (fun K_ hK_ => ?_)
      rw [if_pos (by kernel_rfl)]
      refine wpr_of_list ?_
      ((with_reducible apply (stop_dst (dst := some 23))); (try simp only [Act.put, sA, sB, sC]); ((with_reducible apply (wpl_bslice (dst := some 23))); (exact run_fld6 _ _ _ _ _ _ _ _ _ _ _ _ _); intro zc wb _ _ _))
      refine wpList_nil ?_
      unfold onlyN
      refine hK_.out _ _ inferInstance (fun _ => ?_)
      clear hK_ K_
      try simp only [Act.put, sA]; try simp only [sB, sC]
      refine goH (i := 21) (by kernel_rfl) rfl (fun K_ hK_ => ?_)
      go_simp
      refine (fields6 (z := zc) (hL5.later (stepN (w0 := w5)).chg (fun _ _ h => h)) (hL6.later (stepN (w0 := w6)).chg (fun _ _ h => h)) (hL7.later (stepN (w0 := w7)).chg (fun _ _ h => h)) (hL8.later (stepN (w0 := w8)).chg (fun _ _ h => h)) (hL9.later (stepN (w0 := w9)).chg (fun _ _ h => h)) (hL10.later (stepN (w0 := w10)).chg (fun _ _ h => h))).mono ?_
      rintro e w11 ⟨f11, caps11, T11, rfl, _, hL11, hT11⟩
      have hzc : w.heap.size ≤ zc := (NewA.monoS (w0 := w) (NewA.of_born (z := zc) 0)).out ⟨zc, 0, none⟩ rfl
      refine hK_.out _ _ inferInstance (fun _ => ?_)
      clear hK_ K_
      try simp only [Act.put, sA]; try simp only [sB, sC]
      refine' takeH (i := 22) (v := _) rfl (by kernel_rfl) (by kernel_rfl) (by kernel_rfl) (fun _ _ _ h => h) (yields_of (by rfl) (fun w' _ => ?_)) inferInstance ?_
      rotate_left
      · (go_simp; try with_reducible rfl)
      try simp only [Act.put, sA]; try simp only [sB, sC]
      refine wpAnyH_done (by kernel_rfl) ?_ _
    rotate_left 1
    focus
      rw [if_pos (by kernel_rfl)]
      refine wpr_of_list ?_
      ((with_reducible apply (stop_dst (dst := some 8))); (try simp only [Act.put, sA, sB, sC]); ((with_reducible apply (wpl_bslice (dst := some 8))); (exact run_int1 _ _); intro zb wb _ _ _))
      refine wpList_nil ?_
      unfold onlyN
      refine hK_.out _ _ inferInstance (fun _ => ?_)
      clear hK_ K_
      try simp only [Act.put, sA]; try simp only [sB, sC]
      refine goH (i := 2) (by kernel_rfl) rfl (fun K_ hK_ => ?_)
      go_simp
      refine (text_calls (strL t.l) t.l rfl _).mono ?_
      rintro e w5 ⟨f5, caps5, T5, rfl, _, hL5, hT5⟩
      refine hK_.out _ _ inferInstance (fun _ => ?_)
      clear hK_ K_
      try simp only [Act.put, sA]; try simp only [sB, sC]
      refine goH (i := 6) (by kernel_rfl) rfl (fun K_ hK_ => ?_)
      go_simp
      refine (numsC (z := zb) (vs := [t.size]) rfl rfl (show 9 * 1 ≤ 1000000000 by decide)).mono ?_
      rintro e w6 ⟨f6, caps6, T6, rfl, _, hL6, hT6⟩
      have hzb : w.heap.size ≤ zb := (NewA.monoS (w0 := w) (NewA.of_born (z := zb) 0)).out ⟨zb, 0, none⟩ rfl
      refine hK_.out _ _ inferInstance (fun _ => ?_)
      clear hK_ K_
      try simp only [Act.put, sA]; try simp only [sB, sC]
      refine goH (i := 9) (by kernel_rfl) rfl (fun K_ hK_ => ?_)
      go_simp
      refine (fhash_calls t.sum _).mono ?_
      rintro e w7 ⟨f7, caps7, T7, rfl, _, hL7, hT7⟩
      refine hK_.out _ _ inferInstance (fun _ => ?_)
      clear hK_ K_
      try simp only [Act.put, sA]; try simp only [sB, sC]
      refine goH (i := 12) (by kernel_rfl) rfl (fun K_ hK_ => ?_)
      go_simp
      refine (text_calls (strL t.hw) t.hw rfl _).mono ?_
      rintro e w8 ⟨f8, caps8, T8, rfl, _, hL8, hT8⟩
      refine hK_.out _ _ inferInstance (fun _ => ?_)
      clear hK_ K_
      try simp only [Act.put, sA]; try simp only [sB, sC]
      refine goH (i := 16) (by kernel_rfl) rfl (fun K_ hK_ => ?_)
      go_simp
      refine (numsC (z := zd) (vs := [t.ctr]) rfl rfl (show 9 * 1 ≤ 1000000000 by decide)).mono ?_
      rintro e w9 ⟨f9, caps9, T9, rfl, _, hL9, hT9⟩
      have hzd : w.heap.size ≤ zd := (NewA.monoS (w0 := w) (NewA.of_born (z := zd) 0)).out ⟨zd, 0, none⟩ rfl
      refine hK_.out _ _ inferInstance (fun _ => ?_)
      clear hK_ K_
      try simp only [Act.put, sA]; try simp only [sB, sC]
      refine goH (i := 19) (by kernel_rfl) rfl (fun K_ hK_ => ?_)
      go_simp
      refine (text_calls (strL t.ecu) t.ecu rfl _).mono ?_
      rintro e w10 ⟨f10, caps10, T10, rfl, _, hL10, hT10⟩
      refine hK_.out _ _ inferInstance (fun _ => ?_)
      clear hK_ K_
      try simp only [Act.put, sA]; try simp only [sB, sC]
      refine goH (i := 20) (by kernel_rfl) rfl (fun K_ hK_ => ?_)
      rw [if_pos (by kernel_rfl)]
      refine wpr_of_list ?_
      ((with_reducible apply (stop_dst (dst := some 23))); (try simp only [Act.put, sA, sB, sC]); ((with_reducible apply (wpl_bslice (dst := some 23))); (exact run_fld6 _ _ _ _ _ _ _ _ _ _ _ _ _); intro zc wb _ _ _))
      refine wpList_nil ?_
      unfold onlyN
      refine hK_.out _ _ inferInstance (fun _ => ?_)
      clear hK_ K_
      try simp only [Act.put, sA]; try simp only [sB, sC]
      refine goH (i := 21) (by kernel_rfl) rfl (fun K_ hK_ => ?_)
      go_simp
      refine (fields6 (z := zc) (hL5.later (stepN (w0 := w5)).chg (fun _ _ h => h)) (hL6.later (stepN (w0 := w6)).chg (fun _ _ h => h)) (hL7.later (stepN (w0 := w7)).chg (fun _ _ h => h)) (hL8.later (stepN (w0 := w8)).chg (fun _ _ h => h)) (hL9.later (stepN (w0 := w9)).chg (fun _ _ h => h)) (hL10.later (stepN (w0 := w10)).chg (fun _ _ h => h))).mono ?_
      rintro e w11 ⟨f11, caps11, T11, rfl, _, hL11, hT11⟩
      have hzc : w.heap.size ≤ zc := (NewA.monoS (w0 := w) (NewA.of_born (z := zc) 0)).out ⟨zc, 0, none⟩ rfl
      refine hK_.out _ _ inferInstance (fun _ => ?_)
      clear hK_ K_
      try simp only [Act.put, sA]; try simp only [sB, sC]
      refine' takeH (i := 22) (v := _) rfl (by kernel_rfl) (by kernel_rfl) (by kernel_rfl) (fun _ _ _ h => h) (yields_of (by rfl) (fun w' _ => ?_)) inferInstance ?_
      rotate_left
      · (go_simp; try with_reducible rfl)
      try simp only [Act.put, sA]; try simp only [sB, sC]
      refine wpAnyH_done (by kernel_rfl) ?_ _
    rotate_left 1
  rotate_left 2
  all_goals
    go_wp2_with fail
    go_ret
    refine ⟨f11, caps11, T11, rfl, stepN, hL11, fun x hx => ?_⟩
    rcases hT11 x hx with h | rfl | h | h | h | h | h | h
    · exact .inl (Nat.le_trans (stepN (w0 := w)).chg.size h)
    · exact .inl hzc
    · exact .inl (Nat.le_trans (stepN (w0 := w)).chg.size (hT5 x h))
    · rcases hT6 x h with h | rfl
      · exact .inl (Nat.le_trans (stepN (w0 := w)).chg.size h)
      · exact .inl hzb
    · exact .inl (Nat.le_trans (stepN (w0 := w)).chg.size (hT7 x h))
    · exact .inl (Nat.le_trans (stepN (w0 := w)).chg.size (hT8 x h))
    · rcases hT9 x h with h | rfl
      · exact .inl (Nat.le_trans (stepN (w0 := w)).chg.size h)
      · exact .inl hzd
    · exact .inl (Nat.le_trans (stepN (w0 := w)).chg.size (hT10 x h))
end Go.Proofs.YtmnapacibpnodaaGreat
end
section
open Go Go.RowKit
namespace Go.Proofs.YtmnapacibpnodaaGreat
/-- the state behind a digest -/
def RS.hnx (s : RS) : RS := (s.raw 32).2
def tgTk (s : RS) : TargetR × RS := (⟨s.row.1, (s.row.2.num.1 : Nat), s.row.2.num.2.hsh, s.row.2.num.2.hnx.row.1, (s.row.2.num.2.hnx.row.2.num.1 : Nat), s.row.2.num.2.hnx.row.2.num.2.row.1⟩, s.row.2.num.2.hnx.row.2.num.2.row.2)
/-- a target's cells, loosely -/
def tgV (a b : Value) (h : H32) (x y z : Value) : List Value := a :: b :: (bs h.l ++ [x, y, z])
end Go.Proofs.YtmnapacibpnodaaGreat
end
section
open Go Go.RowKit
namespace Go.Proofs.YtmnapacibpnodaaGreat
end Go.Proofs.YtmnapacibpnodaaGreat
end
