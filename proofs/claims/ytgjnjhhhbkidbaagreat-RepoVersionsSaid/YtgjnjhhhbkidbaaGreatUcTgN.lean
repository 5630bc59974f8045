/- TgC, TgM, TgN -/
import Derived.Test.YtgjnjhhhbkidbaaGreatUcRpB
import Derived.Test.YtgjnjhhhbkidbaaGreatUcWuA
import Derived.Test.YtgjnjhhhbkidbaaGreatUcWsB
import Derived.Test.YtgjnjhhhbkidbaaGreatUcSnB
import Derived.Test.YtgjnjhhhbkidbaaGreatUcTgA
import Derived.Test.YtgjnjhhhbkidbaaGreatUcSnD
section
open Go Go.RowKit
namespace Go.Proofs.YtgjnjhhhbkidbaaGreat
def tgE (t : TargetR) : List UInt8 := encRow t.l ++ (encAll [t.size] ++ (t.sum.l ++ (encRow t.hw ++ (encAll [t.ctr] ++ encRow t.ecu))))
theorem run_fld6 (f1 f2 f3 f4 f5 f6 : FuncId) (c1 c2 c3 c4 c5 c6 : Array Value) (w : World) : (Instr.buildSlice 230 6 #[(0, .func (.func f1) #[] c1), (1, .func (.func f2) #[] c2), (2, .func (.func f3) #[] c3), (3, .func (.func f4) #[] c4), (4, .func (.func f5) #[] c5), (5, .func (.func f6) #[] c6)]).run Tryz.prog w = .ok (.slice (some ⟨w.heap.size, 0, none⟩) 6 6) (w.alloc (.cells #[.func (.func f1) #[] c1, .func (.func f2) #[] c2, .func (.func f3) #[] c3, .func (.func f4) #[] c4, .func (.func f5) #[] c5, .func (.func f6) #[] c6] 186)) := by kernel_rfl
/-- six fields, one behind the other -/
theorem fields6 {z c : Nat} {f1 f2 f3 f4 f5 f6 : FuncId} {c1 c2 c3 c4 c5 c6 : Array Value} {T1 T2 T3 T4 T5 T6 : Nat → Prop} {y1 y2 y3 y4 y5 y6 : List UInt8} {w : World} {t : TypeId} [h : HB w z t #[.func (.func f1) #[] c1, .func (.func f2) #[] c2, .func (.func f3) #[] c3, .func (.func f4) #[] c4, .func (.func f5) #[] c5, .func (.func f6) #[] c6]]
    (h1 : Lays w T1 (.func (.func f1) #[] c1) y1) (h2 : Lays w T2 (.func (.func f2) #[] c2) y2) (h3 : Lays w T3 (.func (.func f3) #[] c3) y3) (h4 : Lays w T4 (.func (.func f4) #[] c4) y4) (h5 : Lays w T5 (.func (.func f5) #[] c5) y5) (h6 : Lays w T6 (.func (.func f6) #[] c6) y6) :
    Calls Tryz.prog 106 #[.slice (some ⟨z, 0, none⟩) 6 c] w fun e w' => ∃ f caps T, e = .returned (.func (.func f) #[] caps) ∧ Step nowhere w w' ∧ Lays w' T (.func (.func f) #[] caps) (y1 ++ (y2 ++ (y3 ++ (y4 ++ (y5 ++ y6))))) ∧ ∀ x, T x → w.heap.size ≤ x ∨ x = z ∨ T1 x ∨ T2 x ∨ T3 x ∨ T4 x ∨ T5 x ∨ T6 x := by
 have hr := h.rdL
 refine (fields_calls (A2 := some ⟨z, 0, none⟩) (c := c) (l := [⟨_, T1, y1⟩, ⟨_, T2, y2⟩, ⟨_, T3, y3⟩, ⟨_, T4, y4⟩, ⟨_, T5, y5⟩, ⟨_, T6, y6⟩]) hr rfl (show 6 ≤ 1000000000 by decide) ?_).mono ?_
 · intro f hf
   simp only [List.mem_cons, List.not_mem_nil, or_false] at hf
   rcases hf with rfl | rfl | rfl | rfl | rfl | rfl
   · exact h1
   · exact h2
   · exact h3
   · exact h4
   · exact h5
   · exact h6
 · rintro e w' ⟨f, caps, T, rfl, hs, hL, hT⟩
   refine ⟨f, caps, T, rfl, hs, ?_, fun x hx => ?_⟩
   · have e2 : allYs [⟨Value.func (.func f1) #[] c1, T1, y1⟩, ⟨Value.func (.func f2) #[] c2, T2, y2⟩, ⟨Value.func (.func f3) #[] c3, T3, y3⟩, ⟨Value.func (.func f4) #[] c4, T4, y4⟩, ⟨Value.func (.func f5) #[] c5, T5, y5⟩, ⟨Value.func (.func f6) #[] c6, T6, y6⟩] = y1 ++ (y2 ++ (y3 ++ (y4 ++ (y5 ++ y6)))) := by simp [allYs]
     rwa [e2] at hL
   · rcases hT x hx with h | ⟨_, ad, e, hk⟩ | ⟨f, hf, hk⟩
     · exact .inl h
     · injection e with e
       subst e
       exact .inr (.inl hk.symm)
     · simp only [List.mem_cons, List.not_mem_nil, or_false] at hf
       rcases hf with rfl | rfl | rfl | rfl | rfl | rfl
       · exact .inr (.inr (.inl hk))
       · exact .inr (.inr (.inr (.inl hk)))
       · exact .inr (.inr (.inr (.inr (.inl hk))))
       · exact .inr (.inr (.inr (.inr (.inr (.inl hk)))))
       · exact .inr (.inr (.inr (.inr (.inr (.inr (.inl hk))))))
       · exact .inr (.inr (.inr (.inr (.inr (.inr (.inr hk))))))
set_option maxRecDepth 100000 in
set_option maxHeartbeats 6400000 in
theorem layTarget_calls (t : TargetR) (w : World) :
    Calls Tryz.prog 122 #[.agg (RowC.enc t).toArray] w (FldPost w (tgE t) nowhere) := by
 have hsz : (RowC.enc t).toArray.size = 37 := tgR_len t
 have hon := enc_one t
 unfold FldPost
 go_enter Tryz.func122, Tryz.ntmps122
 go_wp2_with (first | ((with_reducible apply (wpl_box_agg (dst := some 1))); exact rfl; intro zt wzt _ _ _))
 have hwz := (stepN (w0 := w) (w := wzt)).chg.size
 refine wp_region_N (nowhere) (by kernel_rfl) (fun wd _ _ => ?_)
 refine' tk 0 _ rfl (by kernel_rfl) (by kernel_rfl) (by kernel_rfl) (fun _ _ _ h => h) (yo (by rfl) fun w' _ => ?_) inferInstance ?_
 rotate_left
 · (go_simp; try with_reducible rfl)
 try simp only [Act.put, sA, sB, sC]
 refine' tk 1 _ rfl (by kernel_rfl) (by kernel_rfl) (by kernel_rfl) (fun _ _ _ h => h) (yo (by rfl) fun w' _ => ?_) inferInstance ?_
 rotate_left
 · ((apply (ev_loadcellN (k := 0))); exact rfl; infer_instance; infer_instance; exact tgc_0 _)
 try simp only [Act.put, sA, sB, sC]
 refine' tk 3 _ rfl (by kernel_rfl) (by kernel_rfl) (by kernel_rfl) (fun _ _ _ h => h) (yo (by rfl) fun w' _ => ?_) inferInstance ?_
 rotate_left
 · (go_simp; try with_reducible rfl)
 try simp only [Act.put, sA, sB, sC]
 refine' tk 4 _ rfl (by kernel_rfl) (by kernel_rfl) (by kernel_rfl) (fun _ _ _ h => h) (yo (by rfl) fun w' _ => ?_) inferInstance ?_
 rotate_left
 · ((apply (ev_loadcellN (k := 1))); exact rfl; infer_instance; infer_instance; exact tgc_1 _)
 try simp only [Act.put, sA, sB, sC]
 refine' tk 7 _ rfl (by kernel_rfl) (by kernel_rfl) (by kernel_rfl) (fun _ _ _ h => h) (yo (by rfl) fun w' _ => ?_) inferInstance ?_
 rotate_left
 · (go_simp; try with_reducible rfl)
 try simp only [Act.put, sA, sB, sC]
 refine' tk 8 _ rfl (by kernel_rfl) (by kernel_rfl) (by kernel_rfl) (fun _ _ _ h => h) (yo (by rfl) fun w' _ => ?_) inferInstance ?_
 rotate_left
 · ((apply ev_loadMid); exact rfl; infer_instance; infer_instance; exact tgc_sum _; exact bs32 _; (decide))
 try simp only [Act.put, sA, sB, sC]
 refine' tk 10 _ rfl (by kernel_rfl) (by kernel_rfl) (by kernel_rfl) (fun _ _ _ h => h) (yo (by rfl) fun w' _ => ?_) inferInstance ?_
 rotate_left
 · (go_simp; try with_reducible rfl)
 try simp only [Act.put, sA, sB, sC]
 refine' tk 11 _ rfl (by kernel_rfl) (by kernel_rfl) (by kernel_rfl) (fun _ _ _ h => h) (yo (by rfl) fun w' _ => ?_) inferInstance ?_
 rotate_left
 · ((apply (ev_loadcellN (k := 34))); exact rfl; infer_instance; infer_instance; exact tgc_34 _)
 try simp only [Act.put, sA, sB, sC]
 refine' tk 13 _ rfl (by kernel_rfl) (by kernel_rfl) (by kernel_rfl) (fun _ _ _ h => h) (yo (by rfl) fun w' _ => ?_) inferInstance ?_
 rotate_left
 · (go_simp; try with_reducible rfl)
 try simp only [Act.put, sA, sB, sC]
 refine' tk 14 _ rfl (by kernel_rfl) (by kernel_rfl) (by kernel_rfl) (fun _ _ _ h => h) (yo (by rfl) fun w' _ => ?_) inferInstance ?_
 rotate_left
 · ((apply (ev_loadcellN (k := 35))); exact rfl; infer_instance; infer_instance; exact tgc_35 _)
 try simp only [Act.put, sA, sB, sC]
 refine' tk 17 _ rfl (by kernel_rfl) (by kernel_rfl) (by kernel_rfl) (fun _ _ _ h => h) (yo (by rfl) fun w' _ => ?_) inferInstance ?_
 rotate_left
 · (go_simp; try with_reducible rfl)
 try simp only [Act.put, sA, sB, sC]
 refine' tk 18 _ rfl (by kernel_rfl) (by kernel_rfl) (by kernel_rfl) (fun _ _ _ h => h) (yo (by rfl) fun w' _ => ?_) inferInstance ?_
 rotate_left
 · ((apply (ev_loadcellN (k := 36))); exact rfl; infer_instance; infer_instance; exact tgc_36 _)
 try simp only [Act.put, sA, sB, sC]
 refine wpAnyH_ready (rs := [2, 5, 15]) (by kernel_rfl) (by simp) (AllReadyH.cons rfl (fun K_ hK_ => ?_) (AllReadyH.cons rfl (fun K_ hK_ => ?_) (AllReadyH.cons rfl (fun K_ hK_ => ?_) AllReadyH.nil)))
 focus
  go_simp
  refine (text_calls (strL t.l) t.l rfl _).mono ?_
  rintro e w5 ⟨f5, caps5, T5, rfl, _, hL5, hT5⟩
  refine hK_.out _ _ inferInstance (fun _ => ?_)
  clear hK_ K_
  try simp only [Act.put, sA, sB, sC]
  refine wpAnyH_ready (rs := [5, 15]) (by kernel_rfl) (by simp) (AllReadyH.cons rfl (fun K_ hK_ => ?_) (AllReadyH.cons rfl (fun K_ hK_ => ?_) AllReadyH.nil))
  focus
   rw [if_pos (by kernel_rfl)]
   refine wpr_of_list ?_
   ((with_reducible apply (stop_dst (dst := some 8))); (try simp only [Act.put, sA, sB, sC]); ((with_reducible apply (wpl_bslice (dst := some 8))); exact run_int1 _ _; intro zb wb _ _ _))
   refine wpList_nil ?_
   unfold onlyN
   refine hK_.out _ _ inferInstance (fun _ => ?_)
   clear hK_ K_
   try simp only [Act.put, sA, sB, sC]
   refine wpAnyH_ready (rs := [6, 15]) (by kernel_rfl) (by simp) (AllReadyH.cons rfl (fun K_ hK_ => ?_) (AllReadyH.cons rfl (fun K_ hK_ => ?_) AllReadyH.nil))
   focus
    go_simp
    refine (numsC (z := zb) (vs := [t.size]) rfl rfl (show 9 * 1 ≤ 1000000000 by decide)).mono ?_
    rintro e w6 ⟨f6, caps6, T6, rfl, _, hL6, hT6⟩
    have hzb : w.heap.size ≤ zb := (NewA.monoS (w0 := w) (NewA.of_born (z := zb) 0)).out ⟨zb, 0, none⟩ rfl
    refine hK_.out _ _ inferInstance (fun _ => ?_)
    clear hK_ K_
    try simp only [Act.put, sA, sB, sC]
    refine wpAnyH_ready (rs := [9, 15]) (by kernel_rfl) (by simp) (AllReadyH.cons rfl (fun K_ hK_ => ?_) (AllReadyH.cons rfl (fun K_ hK_ => ?_) AllReadyH.nil))
    focus
     go_simp
     refine (fhash_calls t.sum _).mono ?_
     rintro e w7 ⟨f7, caps7, T7, rfl, _, hL7, hT7⟩
     refine hK_.out _ _ inferInstance (fun _ => ?_)
     clear hK_ K_
     try simp only [Act.put, sA, sB, sC]
     refine wpAnyH_ready (rs := [12, 15]) (by kernel_rfl) (by simp) (AllReadyH.cons rfl (fun K_ hK_ => ?_) (AllReadyH.cons rfl (fun K_ hK_ => ?_) AllReadyH.nil))
     focus
      go_simp
      refine (text_calls (strL t.hw) t.hw rfl _).mono ?_
      rintro e w8 ⟨f8, caps8, T8, rfl, _, hL8, hT8⟩
      refine hK_.out _ _ inferInstance (fun _ => ?_)
      clear hK_ K_
      try simp only [Act.put, sA, sB, sC]
      refine goH (i := 15) (by kernel_rfl) rfl (fun K_ hK_ => ?_)
      rw [if_pos (by kernel_rfl)]
      refine wpr_of_list ?_
      ((with_reducible apply (stop_dst (dst := some 18))); (try simp only [Act.put, sA, sB, sC]); ((with_reducible apply (wpl_bslice (dst := some 18))); exact run_int1 _ _; intro zd wb _ _ _))
      refine wpList_nil ?_
      unfold onlyN
      refine hK_.out _ _ inferInstance (fun _ => ?_)
      clear hK_ K_
      try simp only [Act.put, sA, sB, sC]
      refine goH (i := 16) (by kernel_rfl) rfl (fun K_ hK_ => ?_)
      go_simp
      refine (numsC (z := zd) (vs := [t.ctr]) rfl rfl (show 9 * 1 ≤ 1000000000 by decide)).mono ?_
      rintro e w9 ⟨f9, caps9, T9, rfl, _, hL9, hT9⟩
      have hzd : w.heap.size ≤ zd := (NewA.monoS (w0 := w) (NewA.of_born (z := zd) 0)).out ⟨zd, 0, none⟩ rfl
      refine hK_.out _ _ inferInstance (fun _ => ?_)
      clear hK_ K_
      try simp only [Act.put, sA, sB, sC]
      refine goH (i := 19) (by kernel_rfl) rfl (fun K_ hK_ => ?_)
      go_simp
      refine (text_calls (strL t.ecu) t.ecu rfl _).mono ?_
      rintro e w10 ⟨f10, caps10, T10, rfl, _, hL10, hT10⟩
      refine hK_.out _ _ inferInstance (fun _ => ?_)
      clear hK_ K_
      try simp only [Act.put, sA, sB, sC]
      refine goH (i := 20) (by kernel_rfl) rfl (fun K_ hK_ => ?_)
      rw [if_pos (by kernel_rfl)]
      refine wpr_of_list ?_
      ((with_reducible apply (stop_dst (dst := some 23))); (try simp only [Act.put, sA, sB, sC]); ((with_reducible apply (wpl_bslice (dst := some 23))); exact run_fld6 _ _ _ _ _ _ _ _ _ _ _ _ _; intro zc wb _ _ _))
      refine wpList_nil ?_
      unfold onlyN
      refine hK_.out _ _ inferInstance (fun _ => ?_)
      clear hK_ K_
      try simp only [Act.put, sA, sB, sC]
      refine goH (i := 21) (by kernel_rfl) rfl (fun K_ hK_ => ?_)
      go_simp
      refine (fields6 (z := zc) (hL5.later (stepN (w0 := w5)).chg (fun _ _ h => h)) (hL6.later (stepN (w0 := w6)).chg (fun _ _ h => h)) (hL7.later (stepN (w0 := w7)).chg (fun _ _ h => h)) (hL8.later (stepN (w0 := w8)).chg (fun _ _ h => h)) (hL9.later (stepN (w0 := w9)).chg (fun _ _ h => h)) (hL10.later (stepN (w0 := w10)).chg (fun _ _ h => h))).mono ?_
      rintro e w11 ⟨f11, caps11, T11, rfl, _, hL11, hT11⟩
      have hzc : w.heap.size ≤ zc := (NewA.monoS (w0 := w) (NewA.of_born (z := zc) 0)).out ⟨zc, 0, none⟩ rfl
      refine hK_.out _ _ inferInstance (fun _ => ?_)
      clear hK_ K_
      try simp only [Act.put, sA, sB, sC]
      refine' tk 22 _ rfl (by kernel_rfl) (by kernel_rfl) (by kernel_rfl) (fun _ _ _ h => h) (yo (by rfl) fun w' _ => ?_) inferInstance ?_
      rotate_left
      · (go_simp; try with_reducible rfl)
      try simp only [Act.put, sA, sB, sC]
      refine wpAnyH_done (by kernel_rfl) ?_ _
     rotate_left 1
     focus
      rw [if_pos (by kernel_rfl)]
      refine wpr_of_list ?_
      ((with_reducible apply (stop_dst (dst := some 18))); (try simp only [Act.put, sA, sB, sC]); ((with_reducible apply (wpl_bslice (dst := some 18))); exact run_int1 _ _; intro zd wb _ _ _))
      refine wpList_nil ?_
      unfold onlyN
      refine hK_.out _ _ inferInstance (fun _ => ?_)
      clear hK_ K_
      try simp only [Act.put, sA, sB, sC]
      refine goH (i := 12) (by kernel_rfl) rfl (fun K_ hK_ => ?_)
      go_simp
      refine (text_calls (strL t.hw) t.hw rfl _).mono ?_
      rintro e w8 ⟨f8, caps8, T8, rfl, _, hL8, hT8⟩
      refine hK_.out _ _ inferInstance (fun _ => ?_)
      clear hK_ K_
      try simp only [Act.put, sA, sB, sC]
      refine goH (i := 16) (by kernel_rfl) rfl (fun K_ hK_ => ?_)
      go_simp
      refine (numsC (z := zd) (vs := [t.ctr]) rfl rfl (show 9 * 1 ≤ 1000000000 by decide)).mono ?_
      rintro e w9 ⟨f9, caps9, T9, rfl, _, hL9, hT9⟩
      have hzd : w.heap.size ≤ zd := (NewA.monoS (w0 := w) (NewA.of_born (z := zd) 0)).out ⟨zd, 0, none⟩ rfl
      refine hK_.out _ _ inferInstance (fun _ => ?_)
      clear hK_ K_
      try simp only [Act.put, sA, sB, sC]
      refine goH (i := 19) (by kernel_rfl) rfl (fun K_ hK_ => ?_)
      go_simp
      refine (text_calls (strL t.ecu) t.ecu rfl _).mono ?_
      rintro e w10 ⟨f10, caps10, T10, rfl, _, hL10, hT10⟩
      refine hK_.out _ _ inferInstance (fun _ => ?_)
      clear hK_ K_
      try simp only [Act.put, sA, sB, sC]
      refine goH (i := 20) (by kernel_rfl) rfl (fun K_ hK_ => ?_)
      rw [if_pos (by kernel_rfl)]
      refine wpr_of_list ?_
      ((with_reducible apply (stop_dst (dst := some 23))); (try simp only [Act.put, sA, sB, sC]); ((with_reducible apply (wpl_bslice (dst := some 23))); exact run_fld6 _ _ _ _ _ _ _ _ _ _ _ _ _; intro zc wb _ _ _))
      refine wpList_nil ?_
      unfold onlyN
      refine hK_.out _ _ inferInstance (fun _ => ?_)
      clear hK_ K_
      try simp only [Act.put, sA, sB, sC]
      refine goH (i := 21) (by kernel_rfl) rfl (fun K_ hK_ => ?_)
      go_simp
      refine (fields6 (z := zc) (hL5.later (stepN (w0 := w5)).chg (fun _ _ h => h)) (hL6.later (stepN (w0 := w6)).chg (fun _ _ h => h)) (hL7.later (stepN (w0 := w7)).chg (fun _ _ h => h)) (hL8.later (stepN (w0 := w8)).chg (fun _ _ h => h)) (hL9.later (stepN (w0 := w9)).chg (fun _ _ h => h)) (hL10.later (stepN (w0 := w10)).chg (fun _ _ h => h))).mono ?_
      rintro e w11 ⟨f11, caps11, T11, rfl, _, hL11, hT11⟩
      have hzc : w.heap.size ≤ zc := (NewA.monoS (w0 := w) (NewA.of_born (z := zc) 0)).out ⟨zc, 0, none⟩ rfl
      refine hK_.out _ _ inferInstance (fun _ => ?_)
      clear hK_ K_
      try simp only [Act.put, sA, sB, sC]
      refine' tk 22 _ rfl (by kernel_rfl) (by kernel_rfl) (by kernel_rfl) (fun _ _ _ h => h) (yo (by rfl) fun w' _ => ?_) inferInstance ?_
      rotate_left
      · (go_simp; try with_reducible rfl)
      try simp only [Act.put, sA, sB, sC]
      refine wpAnyH_done (by kernel_rfl) ?_ _
     rotate_left 1
    rotate_left 2
    focus
     rw [if_pos (by kernel_rfl)]
     refine wpr_of_list ?_
     ((with_reducible apply (stop_dst (dst := some 18))); (try simp only [Act.put, sA, sB, sC]); ((with_reducible apply (wpl_bslice (dst := some 18))); exact run_int1 _ _; intro zd wb _ _ _))
     refine wpList_nil ?_
     unfold onlyN
     refine hK_.out _ _ inferInstance (fun _ => ?_)
     clear hK_ K_
     try simp only [Act.put, sA, sB, sC]
     refine goH (i := 9) (by kernel_rfl) rfl (fun K_ hK_ => ?_)
     go_simp
     refine (fhash_calls t.sum _).mono ?_
     rintro e w7 ⟨f7, caps7, T7, rfl, _, hL7, hT7⟩
     refine hK_.out _ _ inferInstance (fun _ => ?_)
     clear hK_ K_
     try simp only [Act.put, sA, sB, sC]
     refine goH (i := 12) (by kernel_rfl) rfl (fun K_ hK_ => ?_)
     go_simp
     refine (text_calls (strL t.hw) t.hw rfl _).mono ?_
     rintro e w8 ⟨f8, caps8, T8, rfl, _, hL8, hT8⟩
     refine hK_.out _ _ inferInstance (fun _ => ?_)
     clear hK_ K_
     try simp only [Act.put, sA, sB, sC]
     refine goH (i := 16) (by kernel_rfl) rfl (fun K_ hK_ => ?_)
     go_simp
     refine (numsC (z := zd) (vs := [t.ctr]) rfl rfl (show 9 * 1 ≤ 1000000000 by decide)).mono ?_
     rintro e w9 ⟨f9, caps9, T9, rfl, _, hL9, hT9⟩
     have hzd : w.heap.size ≤ zd := (NewA.monoS (w0 := w) (NewA.of_born (z := zd) 0)).out ⟨zd, 0, none⟩ rfl
     refine hK_.out _ _ inferInstance (fun _ => ?_)
     clear hK_ K_
     try simp only [Act.put, sA, sB, sC]
     refine goH (i := 19) (by kernel_rfl) rfl (fun K_ hK_ => ?_)
     go_simp
     refine (text_calls (strL t.ecu) t.ecu rfl _).mono ?_
     rintro e w10 ⟨f10, caps10, T10, rfl, _, hL10, hT10⟩
     refine hK_.out _ _ inferInstance (fun _ => ?_)
     clear hK_ K_
     try simp only [Act.put, sA, sB, sC]
     refine goH (i := 20) (by kernel_rfl) rfl (fun K_ hK_ => ?_)
     rw [if_pos (by kernel_rfl)]
     refine wpr_of_list ?_
     ((with_reducible apply (stop_dst (dst := some 23))); (try simp only [Act.put, sA, sB, sC]); ((with_reducible apply (wpl_bslice (dst := some 23))); exact run_fld6 _ _ _ _ _ _ _ _ _ _ _ _ _; intro zc wb _ _ _))
     refine wpList_nil ?_
     unfold onlyN
     refine hK_.out _ _ inferInstance (fun _ => ?_)
     clear hK_ K_
     try simp only [Act.put, sA, sB, sC]
     refine goH (i := 21) (by kernel_rfl) rfl (fun K_ hK_ => ?_)
     go_simp
     refine (fields6 (z := zc) (hL5.later (stepN (w0 := w5)).chg (fun _ _ h => h)) (hL6.later (stepN (w0 := w6)).chg (fun _ _ h => h)) (hL7.later (stepN (w0 := w7)).chg (fun _ _ h => h)) (hL8.later (stepN (w0 := w8)).chg (fun _ _ h => h)) (hL9.later (stepN (w0 := w9)).chg (fun _ _ h => h)) (hL10.later (stepN (w0 := w10)).chg (fun _ _ h => h))).mono ?_
     rintro e w11 ⟨f11, caps11, T11, rfl, _, hL11, hT11⟩
     have hzc : w.heap.size ≤ zc := (NewA.monoS (w0 := w) (NewA.of_born (z := zc) 0)).out ⟨zc, 0, none⟩ rfl
     refine hK_.out _ _ inferInstance (fun _ => ?_)
     clear hK_ K_
     try simp only [Act.put, sA, sB, sC]
     refine' tk 22 _ rfl (by kernel_rfl) (by kernel_rfl) (by kernel_rfl) (fun _ _ _ h => h) (yo (by rfl) fun w' _ => ?_) inferInstance ?_
     rotate_left
     · (go_simp; try with_reducible rfl)
     try simp only [Act.put, sA, sB, sC]
     refine wpAnyH_done (by kernel_rfl) ?_ _
    rotate_left 1
   rotate_left 3
   focus
    rw [if_pos (by kernel_rfl)]
    refine wpr_of_list ?_
    ((with_reducible apply (stop_dst (dst := some 18))); (try simp only [Act.put, sA, sB, sC]); ((with_reducible apply (wpl_bslice (dst := some 18))); exact run_int1 _ _; intro zd wb _ _ _))
    refine wpList_nil ?_
    unfold onlyN
    refine hK_.out _ _ inferInstance (fun _ => ?_)
    clear hK_ K_
    try simp only [Act.put, sA, sB, sC]
    refine goH (i := 6) (by kernel_rfl) rfl (fun K_ hK_ => ?_)
    go_simp
    refine (numsC (z := zb) (vs := [t.size]) rfl rfl (show 9 * 1 ≤ 1000000000 by decide)).mono ?_
    rintro e w6 ⟨f6, caps6, T6, rfl, _, hL6, hT6⟩
    have hzb : w.heap.size ≤ zb := (NewA.monoS (w0 := w) (NewA.of_born (z := zb) 0)).out ⟨zb, 0, none⟩ rfl
    refine hK_.out _ _ inferInstance (fun _ => ?_)
    clear hK_ K_
    try simp only [Act.put, sA, sB, sC]
    refine goH (i := 9) (by kernel_rfl) rfl (fun K_ hK_ => ?_)
    go_simp
    refine (fhash_calls t.sum _).mono ?_
    rintro e w7 ⟨f7, caps7, T7, rfl, _, hL7, hT7⟩
    refine hK_.out _ _ inferInstance (fun _ => ?_)
    clear hK_ K_
    try simp only [Act.put, sA, sB, sC]
    refine goH (i := 12) (by kernel_rfl) rfl (fun K_ hK_ => ?_)
    go_simp
    refine (text_calls (strL t.hw) t.hw rfl _).mono ?_
    rintro e w8 ⟨f8, caps8, T8, rfl, _, hL8, hT8⟩
    refine hK_.out _ _ inferInstance (fun _ => ?_)
    clear hK_ K_
    try simp only [Act.put, sA, sB, sC]
    refine goH (i := 16) (by kernel_rfl) rfl (fun K_ hK_ => ?_)
    go_simp
    refine (numsC (z := zd) (vs := [t.ctr]) rfl rfl (show 9 * 1 ≤ 1000000000 by decide)).mono ?_
    rintro e w9 ⟨f9, caps9, T9, rfl, _, hL9, hT9⟩
    have hzd : w.heap.size ≤ zd := (NewA.monoS (w0 := w) (NewA.of_born (z := zd) 0)).out ⟨zd, 0, none⟩ rfl
    refine hK_.out _ _ inferInstance (fun _ => ?_)
    clear hK_ K_
    try simp only [Act.put, sA, sB, sC]
    refine goH (i := 19) (by kernel_rfl) rfl (fun K_ hK_ => ?_)
    go_simp
    refine (text_calls (strL t.ecu) t.ecu rfl _).mono ?_
    rintro e w10 ⟨f10, caps10, T10, rfl, _, hL10, hT10⟩
    refine hK_.out _ _ inferInstance (fun _ => ?_)
    clear hK_ K_
    try simp only [Act.put, sA, sB, sC]
    refine goH (i := 20) (by kernel_rfl) rfl (fun K_ hK_ => ?_)
    rw [if_pos (by kernel_rfl)]
    refine wpr_of_list ?_
    ((with_reducible apply (stop_dst (dst := some 23))); (try simp only [Act.put, sA, sB, sC]); ((with_reducible apply (wpl_bslice (dst := some 23))); exact run_fld6 _ _ _ _ _ _ _ _ _ _ _ _ _; intro zc wb _ _ _))
    refine wpList_nil ?_
    unfold onlyN
    refine hK_.out _ _ inferInstance (fun _ => ?_)
    clear hK_ K_
    try simp only [Act.put, sA, sB, sC]
    refine goH (i := 21) (by kernel_rfl) rfl (fun K_ hK_ => ?_)
    go_simp
    refine (fields6 (z := zc) (hL5.later (stepN (w0 := w5)).chg (fun _ _ h => h)) (hL6.later (stepN (w0 := w6)).chg (fun _ _ h => h)) (hL7.later (stepN (w0 := w7)).chg (fun _ _ h => h)) (hL8.later (stepN (w0 := w8)).chg (fun _ _ h => h)) (hL9.later (stepN (w0 := w9)).chg (fun _ _ h => h)) (hL10.later (stepN (w0 := w10)).chg (fun _ _ h => h))).mono ?_
    rintro e w11 ⟨f11, caps11, T11, rfl, _, hL11, hT11⟩
    have hzc : w.heap.size ≤ zc := (NewA.monoS (w0 := w) (NewA.of_born (z := zc) 0)).out ⟨zc, 0, none⟩ rfl
    refine hK_.out _ _ inferInstance (fun _ => ?_)
    clear hK_ K_
    try simp only [Act.put, sA, sB, sC]
    refine' tk 22 _ rfl (by kernel_rfl) (by kernel_rfl) (by kernel_rfl) (fun _ _ _ h => h) (yo (by rfl) fun w' _ => ?_) inferInstance ?_
    rotate_left
    · (go_simp; try with_reducible rfl)
    try simp only [Act.put, sA, sB, sC]
    refine wpAnyH_done (by kernel_rfl) ?_ _
   rotate_left 1
  rotate_left 4
  focus
   rw [if_pos (by kernel_rfl)]
   refine wpr_of_list ?_
   ((with_reducible apply (stop_dst (dst := some 18))); (try simp only [Act.put, sA, sB, sC]); ((with_reducible apply (wpl_bslice (dst := some 18))); exact run_int1 _ _; intro zd wb _ _ _))
   refine wpList_nil ?_
   unfold onlyN
   refine hK_.out _ _ inferInstance (fun _ => ?_)
   clear hK_ K_
   try simp only [Act.put, sA, sB, sC]
   refine goH (i := 5) (by kernel_rfl) rfl (fun K_ hK_ => ?_)
   rw [if_pos (by kernel_rfl)]
   refine wpr_of_list ?_
   ((with_reducible apply (stop_dst (dst := some 8))); (try simp only [Act.put, sA, sB, sC]); ((with_reducible apply (wpl_bslice (dst := some 8))); exact run_int1 _ _; intro zb wb _ _ _))
   refine wpList_nil ?_
   unfold onlyN
   refine hK_.out _ _ inferInstance (fun _ => ?_)
   clear hK_ K_
   try simp only [Act.put, sA, sB, sC]
   refine goH (i := 6) (by kernel_rfl) rfl (fun K_ hK_ => ?_)
   go_simp
   refine (numsC (z := zb) (vs := [t.size]) rfl rfl (show 9 * 1 ≤ 1000000000 by decide)).mono ?_
   rintro e w6 ⟨f6, caps6, T6, rfl, _, hL6, hT6⟩
   have hzb : w.heap.size ≤ zb := (NewA.monoS (w0 := w) (NewA.of_born (z := zb) 0)).out ⟨zb, 0, none⟩ rfl
   refine hK_.out _ _ inferInstance (fun _ => ?_)
   clear hK_ K_
   try simp only [Act.put, sA, sB, sC]
   refine goH (i := 9) (by kernel_rfl) rfl (fun K_ hK_ => ?_)
   go_simp
   refine (fhash_calls t.sum _).mono ?_
   rintro e w7 ⟨f7, caps7, T7, rfl, _, hL7, hT7⟩
   refine hK_.out _ _ inferInstance (fun _ => ?_)
   clear hK_ K_
   try simp only [Act.put, sA, sB, sC]
   refine goH (i := 12) (by kernel_rfl) rfl (fun K_ hK_ => ?_)
   go_simp
   refine (text_calls (strL t.hw) t.hw rfl _).mono ?_
   rintro e w8 ⟨f8, caps8, T8, rfl, _, hL8, hT8⟩
   refine hK_.out _ _ inferInstance (fun _ => ?_)
   clear hK_ K_
   try simp only [Act.put, sA, sB, sC]
   refine goH (i := 16) (by kernel_rfl) rfl (fun K_ hK_ => ?_)
   go_simp
   refine (numsC (z := zd) (vs := [t.ctr]) rfl rfl (show 9 * 1 ≤ 1000000000 by decide)).mono ?_
   rintro e w9 ⟨f9, caps9, T9, rfl, _, hL9, hT9⟩
   have hzd : w.heap.size ≤ zd := (NewA.monoS (w0 := w) (NewA.of_born (z := zd) 0)).out ⟨zd, 0, none⟩ rfl
   refine hK_.out _ _ inferInstance (fun _ => ?_)
   clear hK_ K_
   try simp only [Act.put, sA, sB, sC]
   refine goH (i := 19) (by kernel_rfl) rfl (fun K_ hK_ => ?_)
   go_simp
   refine (text_calls (strL t.ecu) t.ecu rfl _).mono ?_
   rintro e w10 ⟨f10, caps10, T10, rfl, _, hL10, hT10⟩
   refine hK_.out _ _ inferInstance (fun _ => ?_)
   clear hK_ K_
   try simp only [Act.put, sA, sB, sC]
   refine goH (i := 20) (by kernel_rfl) rfl (fun K_ hK_ => ?_)
   rw [if_pos (by kernel_rfl)]
   refine wpr_of_list ?_
   ((with_reducible apply (stop_dst (dst := some 23))); (try simp only [Act.put, sA, sB, sC]); ((with_reducible apply (wpl_bslice (dst := some 23))); exact run_fld6 _ _ _ _ _ _ _ _ _ _ _ _ _; intro zc wb _ _ _))
   refine wpList_nil ?_
   unfold onlyN
   refine hK_.out _ _ inferInstance (fun _ => ?_)
   clear hK_ K_
   try simp only [Act.put, sA, sB, sC]
   refine goH (i := 21) (by kernel_rfl) rfl (fun K_ hK_ => ?_)
   go_simp
   refine (fields6 (z := zc) (hL5.later (stepN (w0 := w5)).chg (fun _ _ h => h)) (hL6.later (stepN (w0 := w6)).chg (fun _ _ h => h)) (hL7.later (stepN (w0 := w7)).chg (fun _ _ h => h)) (hL8.later (stepN (w0 := w8)).chg (fun _ _ h => h)) (hL9.later (stepN (w0 := w9)).chg (fun _ _ h => h)) (hL10.later (stepN (w0 := w10)).chg (fun _ _ h => h))).mono ?_
   rintro e w11 ⟨f11, caps11, T11, rfl, _, hL11, hT11⟩
   have hzc : w.heap.size ≤ zc := (NewA.monoS (w0 := w) (NewA.of_born (z := zc) 0)).out ⟨zc, 0, none⟩ rfl
   refine hK_.out _ _ inferInstance (fun _ => ?_)
   clear hK_ K_
   try simp only [Act.put, sA, sB, sC]
   refine' tk 22 _ rfl (by kernel_rfl) (by kernel_rfl) (by kernel_rfl) (fun _ _ _ h => h) (yo (by rfl) fun w' _ => ?_) inferInstance ?_
   rotate_left
   · (go_simp; try with_reducible rfl)
   try simp only [Act.put, sA, sB, sC]
   refine wpAnyH_done (by kernel_rfl) ?_ _
  rotate_left 1
 rotate_left 5
 focus
  rw [if_pos (by kernel_rfl)]
  refine wpr_of_list ?_
  ((with_reducible apply (stop_dst (dst := some 8))); (try simp only [Act.put, sA, sB, sC]); ((with_reducible apply (wpl_bslice (dst := some 8))); exact run_int1 _ _; intro zb wb _ _ _))
  refine wpList_nil ?_
  unfold onlyN
  refine hK_.out _ _ inferInstance (fun _ => ?_)
  clear hK_ K_
  try simp only [Act.put, sA, sB, sC]
  refine wpAnyH_ready (rs := [2, 15]) (by kernel_rfl) (by simp) (AllReadyH.cons rfl (fun K_ hK_ => ?_) (AllReadyH.cons rfl (fun K_ hK_ => ?_) AllReadyH.nil))
  focus
   go_simp
   refine (text_calls (strL t.l) t.l rfl _).mono ?_
   rintro e w5 ⟨f5, caps5, T5, rfl, _, hL5, hT5⟩
   refine hK_.out _ _ inferInstance (fun _ => ?_)
   clear hK_ K_
   try simp only [Act.put, sA, sB, sC]
   refine wpAnyH_ready (rs := [6, 15]) (by kernel_rfl) (by simp) (AllReadyH.cons rfl (fun K_ hK_ => ?_) (AllReadyH.cons rfl (fun K_ hK_ => ?_) AllReadyH.nil))
   focus
    go_simp
    refine (numsC (z := zb) (vs := [t.size]) rfl rfl (show 9 * 1 ≤ 1000000000 by decide)).mono ?_
    rintro e w6 ⟨f6, caps6, T6, rfl, _, hL6, hT6⟩
    have hzb : w.heap.size ≤ zb := (NewA.monoS (w0 := w) (NewA.of_born (z := zb) 0)).out ⟨zb, 0, none⟩ rfl
    refine hK_.out _ _ inferInstance (fun _ => ?_)
    clear hK_ K_
    try simp only [Act.put, sA, sB, sC]
    refine wpAnyH_ready (rs := [9, 15]) (by kernel_rfl) (by simp) (AllReadyH.cons rfl (fun K_ hK_ => ?_) (AllReadyH.cons rfl (fun K_ hK_ => ?_) AllReadyH.nil))
    focus
     go_simp
     refine (fhash_calls t.sum _).mono ?_
     rintro e w7 ⟨f7, caps7, T7, rfl, _, hL7, hT7⟩
     refine hK_.out _ _ inferInstance (fun _ => ?_)
     clear hK_ K_
     try simp only [Act.put, sA, sB, sC]
     refine wpAnyH_ready (rs := [12, 15]) (by kernel_rfl) (by simp) (AllReadyH.cons rfl (fun K_ hK_ => ?_) (AllReadyH.cons rfl (fun K_ hK_ => ?_) AllReadyH.nil))
     focus
      go_simp
      refine (text_calls (strL t.hw) t.hw rfl _).mono ?_
      rintro e w8 ⟨f8, caps8, T8, rfl, _, hL8, hT8⟩
      refine hK_.out _ _ inferInstance (fun _ => ?_)
      clear hK_ K_
      try simp only [Act.put, sA, sB, sC]
      refine goH (i := 15) (by kernel_rfl) rfl (fun K_ hK_ => ?_)
      rw [if_pos (by kernel_rfl)]
      refine wpr_of_list ?_
      ((with_reducible apply (stop_dst (dst := some 18))); (try simp only [Act.put, sA, sB, sC]); ((with_reducible apply (wpl_bslice (dst := some 18))); exact run_int1 _ _; intro zd wb _ _ _))
      refine wpList_nil ?_
      unfold onlyN
      refine hK_.out _ _ inferInstance (fun _ => ?_)
      clear hK_ K_
      try simp only [Act.put, sA, sB, sC]
      refine goH (i := 16) (by kernel_rfl) rfl (fun K_ hK_ => ?_)
      go_simp
      refine (numsC (z := zd) (vs := [t.ctr]) rfl rfl (show 9 * 1 ≤ 1000000000 by decide)).mono ?_
      rintro e w9 ⟨f9, caps9, T9, rfl, _, hL9, hT9⟩
      have hzd : w.heap.size ≤ zd := (NewA.monoS (w0 := w) (NewA.of_born (z := zd) 0)).out ⟨zd, 0, none⟩ rfl
      refine hK_.out _ _ inferInstance (fun _ => ?_)
      clear hK_ K_
      try simp only [Act.put, sA, sB, sC]
      refine goH (i := 19) (by kernel_rfl) rfl (fun K_ hK_ => ?_)
      go_simp
      refine (text_calls (strL t.ecu) t.ecu rfl _).mono ?_
      rintro e w10 ⟨f10, caps10, T10, rfl, _, hL10, hT10⟩
      refine hK_.out _ _ inferInstance (fun _ => ?_)
      clear hK_ K_
      try simp only [Act.put, sA, sB, sC]
      refine goH (i := 20) (by kernel_rfl) rfl (fun K_ hK_ => ?_)
      rw [if_pos (by kernel_rfl)]
      refine wpr_of_list ?_
      ((with_reducible apply (stop_dst (dst := some 23))); (try simp only [Act.put, sA, sB, sC]); ((with_reducible apply (wpl_bslice (dst := some 23))); exact run_fld6 _ _ _ _ _ _ _ _ _ _ _ _ _; intro zc wb _ _ _))
      refine wpList_nil ?_
      unfold onlyN
      refine hK_.out _ _ inferInstance (fun _ => ?_)
      clear hK_ K_
      try simp only [Act.put, sA, sB, sC]
      refine goH (i := 21) (by kernel_rfl) rfl (fun K_ hK_ => ?_)
      go_simp
      refine (fields6 (z := zc) (hL5.later (stepN (w0 := w5)).chg (fun _ _ h => h)) (hL6.later (stepN (w0 := w6)).chg (fun _ _ h => h)) (hL7.later (stepN (w0 := w7)).chg (fun _ _ h => h)) (hL8.later (stepN (w0 := w8)).chg (fun _ _ h => h)) (hL9.later (stepN (w0 := w9)).chg (fun _ _ h => h)) (hL10.later (stepN (w0 := w10)).chg (fun _ _ h => h))).mono ?_
      rintro e w11 ⟨f11, caps11, T11, rfl, _, hL11, hT11⟩
      have hzc : w.heap.size ≤ zc := (NewA.monoS (w0 := w) (NewA.of_born (z := zc) 0)).out ⟨zc, 0, none⟩ rfl
      refine hK_.out _ _ inferInstance (fun _ => ?_)
      clear hK_ K_
      try simp only [Act.put, sA, sB, sC]
      refine' tk 22 _ rfl (by kernel_rfl) (by kernel_rfl) (by kernel_rfl) (fun _ _ _ h => h) (yo (by rfl) fun w' _ => ?_) inferInstance ?_
      rotate_left
      · (go_simp; try with_reducible rfl)
      try simp only [Act.put, sA, sB, sC]
      refine wpAnyH_done (by kernel_rfl) ?_ _
     rotate_left 1
     focus
      rw [if_pos (by kernel_rfl)]
      refine wpr_of_list ?_
      ((with_reducible apply (stop_dst (dst := some 18))); (try simp only [Act.put, sA, sB, sC]); ((with_reducible apply (wpl_bslice (dst := some 18))); exact run_int1 _ _; intro zd wb _ _ _))
      refine wpList_nil ?_
      unfold onlyN
      refine hK_.out _ _ inferInstance (fun _ => ?_)
      clear hK_ K_
      try simp only [Act.put, sA, sB, sC]
      refine goH (i := 12) (by kernel_rfl) rfl (fun K_ hK_ => ?_)
      go_simp
      refine (text_calls (strL t.hw) t.hw rfl _).mono ?_
      rintro e w8 ⟨f8, caps8, T8, rfl, _, hL8, hT8⟩
      refine hK_.out _ _ inferInstance (fun _ => ?_)
      clear hK_ K_
      try simp only [Act.put, sA, sB, sC]
      refine goH (i := 16) (by kernel_rfl) rfl (fun K_ hK_ => ?_)
      go_simp
      refine (numsC (z := zd) (vs := [t.ctr]) rfl rfl (show 9 * 1 ≤ 1000000000 by decide)).mono ?_
      rintro e w9 ⟨f9, caps9, T9, rfl, _, hL9, hT9⟩
      have hzd : w.heap.size ≤ zd := (NewA.monoS (w0 := w) (NewA.of_born (z := zd) 0)).out ⟨zd, 0, none⟩ rfl
      refine hK_.out _ _ inferInstance (fun _ => ?_)
      clear hK_ K_
      try simp only [Act.put, sA, sB, sC]
      refine goH (i := 19) (by kernel_rfl) rfl (fun K_ hK_ => ?_)
      go_simp
      refine (text_calls (strL t.ecu) t.ecu rfl _).mono ?_
      rintro e w10 ⟨f10, caps10, T10, rfl, _, hL10, hT10⟩
      refine hK_.out _ _ inferInstance (fun _ => ?_)
      clear hK_ K_
      try simp only [Act.put, sA, sB, sC]
      refine goH (i := 20) (by kernel_rfl) rfl (fun K_ hK_ => ?_)
      rw [if_pos (by kernel_rfl)]
      refine wpr_of_list ?_
      ((with_reducible apply (stop_dst (dst := some 23))); (try simp only [Act.put, sA, sB, sC]); ((with_reducible apply (wpl_bslice (dst := some 23))); exact run_fld6 _ _ _ _ _ _ _ _ _ _ _ _ _; intro zc wb _ _ _))
      refine wpList_nil ?_
      unfold onlyN
      refine hK_.out _ _ inferInstance (fun _ => ?_)
      clear hK_ K_
      try simp only [Act.put, sA, sB, sC]
      refine goH (i := 21) (by kernel_rfl) rfl (fun K_ hK_ => ?_)
      go_simp
      refine (fields6 (z := zc) (hL5.later (stepN (w0 := w5)).chg (fun _ _ h => h)) (hL6.later (stepN (w0 := w6)).chg (fun _ _ h => h)) (hL7.later (stepN (w0 := w7)).chg (fun _ _ h => h)) (hL8.later (stepN (w0 := w8)).chg (fun _ _ h => h)) (hL9.later (stepN (w0 := w9)).chg (fun _ _ h => h)) (hL10.later (stepN (w0 := w10)).chg (fun _ _ h => h))).mono ?_
      rintro e w11 ⟨f11, caps11, T11, rfl, _, hL11, hT11⟩
      have hzc : w.heap.size ≤ zc := (NewA.monoS (w0 := w) (NewA.of_born (z := zc) 0)).out ⟨zc, 0, none⟩ rfl
      refine hK_.out _ _ inferInstance (fun _ => ?_)
      clear hK_ K_
      try simp only [Act.put, sA, sB, sC]
      refine' tk 22 _ rfl (by kernel_rfl) (by kernel_rfl) (by kernel_rfl) (fun _ _ _ h => h) (yo (by rfl) fun w' _ => ?_) inferInstance ?_
      rotate_left
      · (go_simp; try with_reducible rfl)
      try simp only [Act.put, sA, sB, sC]
      refine wpAnyH_done (by kernel_rfl) ?_ _
     rotate_left 1
    rotate_left 2
    focus
     rw [if_pos (by kernel_rfl)]
     refine wpr_of_list ?_
     ((with_reducible apply (stop_dst (dst := some 18))); (try simp only [Act.put, sA, sB, sC]); ((with_reducible apply (wpl_bslice (dst := some 18))); exact run_int1 _ _; intro zd wb _ _ _))
     refine wpList_nil ?_
     unfold onlyN
     refine hK_.out _ _ inferInstance (fun _ => ?_)
     clear hK_ K_
     try simp only [Act.put, sA, sB, sC]
     refine goH (i := 9) (by kernel_rfl) rfl (fun K_ hK_ => ?_)
     go_simp
     refine (fhash_calls t.sum _).mono ?_
     rintro e w7 ⟨f7, caps7, T7, rfl, _, hL7, hT7⟩
     refine hK_.out _ _ inferInstance (fun _ => ?_)
     clear hK_ K_
     try simp only [Act.put, sA, sB, sC]
     refine goH (i := 12) (by kernel_rfl) rfl (fun K_ hK_ => ?_)
     go_simp
     refine (text_calls (strL t.hw) t.hw rfl _).mono ?_
     rintro e w8 ⟨f8, caps8, T8, rfl, _, hL8, hT8⟩
     refine hK_.out _ _ inferInstance (fun _ => ?_)
     clear hK_ K_
     try simp only [Act.put, sA, sB, sC]
     refine goH (i := 16) (by kernel_rfl) rfl (fun K_ hK_ => ?_)
     go_simp
     refine (numsC (z := zd) (vs := [t.ctr]) rfl rfl (show 9 * 1 ≤ 1000000000 by decide)).mono ?_
     rintro e w9 ⟨f9, caps9, T9, rfl, _, hL9, hT9⟩
     have hzd : w.heap.size ≤ zd := (NewA.monoS (w0 := w) (NewA.of_born (z := zd) 0)).out ⟨zd, 0, none⟩ rfl
     refine hK_.out _ _ inferInstance (fun _ => ?_)
     clear hK_ K_
     try simp only [Act.put, sA, sB, sC]
     refine goH (i := 19) (by kernel_rfl) rfl (fun K_ hK_ => ?_)
     go_simp
     refine (text_calls (strL t.ecu) t.ecu rfl _).mono ?_
     rintro e w10 ⟨f10, caps10, T10, rfl, _, hL10, hT10⟩
     refine hK_.out _ _ inferInstance (fun _ => ?_)
     clear hK_ K_
     try simp only [Act.put, sA, sB, sC]
     refine goH (i := 20) (by kernel_rfl) rfl (fun K_ hK_ => ?_)
     rw [if_pos (by kernel_rfl)]
     refine wpr_of_list ?_
     ((with_reducible apply (stop_dst (dst := some 23))); (try simp only [Act.put, sA, sB, sC]); ((with_reducible apply (wpl_bslice (dst := some 23))); exact run_fld6 _ _ _ _ _ _ _ _ _ _ _ _ _; intro zc wb _ _ _))
     refine wpList_nil ?_
     unfold onlyN
     refine hK_.out _ _ inferInstance (fun _ => ?_)
     clear hK_ K_
     try simp only [Act.put, sA, sB, sC]
     refine goH (i := 21) (by kernel_rfl) rfl (fun K_ hK_ => ?_)
     go_simp
     refine (fields6 (z := zc) (hL5.later (stepN (w0 := w5)).chg (fun _ _ h => h)) (hL6.later (stepN (w0 := w6)).chg (fun _ _ h => h)) (hL7.later (stepN (w0 := w7)).chg (fun _ _ h => h)) (hL8.later (stepN (w0 := w8)).chg (fun _ _ h => h)) (hL9.later (stepN (w0 := w9)).chg (fun _ _ h => h)) (hL10.later (stepN (w0 := w10)).chg (fun _ _ h => h))).mono ?_
     rintro e w11 ⟨f11, caps11, T11, rfl, _, hL11, hT11⟩
     have hzc : w.heap.size ≤ zc := (NewA.monoS (w0 := w) (NewA.of_born (z := zc) 0)).out ⟨zc, 0, none⟩ rfl
     refine hK_.out _ _ inferInstance (fun _ => ?_)
     clear hK_ K_
     try simp only [Act.put, sA, sB, sC]
     refine' tk 22 _ rfl (by kernel_rfl) (by kernel_rfl) (by kernel_rfl) (fun _ _ _ h => h) (yo (by rfl) fun w' _ => ?_) inferInstance ?_
     rotate_left
     · (go_simp; try with_reducible rfl)
     try simp only [Act.put, sA, sB, sC]
     refine wpAnyH_done (by kernel_rfl) ?_ _
    rotate_left 1
   rotate_left 3
   focus
    rw [if_pos (by kernel_rfl)]
    refine wpr_of_list ?_
    ((with_reducible apply (stop_dst (dst := some 18))); (try simp only [Act.put, sA, sB, sC]); ((with_reducible apply (wpl_bslice (dst := some 18))); exact run_int1 _ _; intro zd wb _ _ _))
    refine wpList_nil ?_
    unfold onlyN
    refine hK_.out _ _ inferInstance (fun _ => ?_)
    clear hK_ K_
    try simp only [Act.put, sA, sB, sC]
    refine goH (i := 6) (by kernel_rfl) rfl (fun K_ hK_ => ?_)
    go_simp
    refine (numsC (z := zb) (vs := [t.size]) rfl rfl (show 9 * 1 ≤ 1000000000 by decide)).mono ?_
    rintro e w6 ⟨f6, caps6, T6, rfl, _, hL6, hT6⟩
    have hzb : w.heap.size ≤ zb := (NewA.monoS (w0 := w) (NewA.of_born (z := zb) 0)).out ⟨zb, 0, none⟩ rfl
    refine hK_.out _ _ inferInstance (fun _ => ?_)
    clear hK_ K_
    try simp only [Act.put, sA, sB, sC]
    refine goH (i := 9) (by kernel_rfl) rfl (fun K_ hK_ => ?_)
    go_simp
    refine (fhash_calls t.sum _).mono ?_
    rintro e w7 ⟨f7, caps7, T7, rfl, _, hL7, hT7⟩
    refine hK_.out _ _ inferInstance (fun _ => ?_)
    clear hK_ K_
    try simp only [Act.put, sA, sB, sC]
    refine goH (i := 12) (by kernel_rfl) rfl (fun K_ hK_ => ?_)
    go_simp
    refine (text_calls (strL t.hw) t.hw rfl _).mono ?_
    rintro e w8 ⟨f8, caps8, T8, rfl, _, hL8, hT8⟩
    refine hK_.out _ _ inferInstance (fun _ => ?_)
    clear hK_ K_
    try simp only [Act.put, sA, sB, sC]
    refine goH (i := 16) (by kernel_rfl) rfl (fun K_ hK_ => ?_)
    go_simp
    refine (numsC (z := zd) (vs := [t.ctr]) rfl rfl (show 9 * 1 ≤ 1000000000 by decide)).mono ?_
    rintro e w9 ⟨f9, caps9, T9, rfl, _, hL9, hT9⟩
    have hzd : w.heap.size ≤ zd := (NewA.monoS (w0 := w) (NewA.of_born (z := zd) 0)).out ⟨zd, 0, none⟩ rfl
    refine hK_.out _ _ inferInstance (fun _ => ?_)
    clear hK_ K_
    try simp only [Act.put, sA, sB, sC]
    refine goH (i := 19) (by kernel_rfl) rfl (fun K_ hK_ => ?_)
    go_simp
    refine (text_calls (strL t.ecu) t.ecu rfl _).mono ?_
    rintro e w10 ⟨f10, caps10, T10, rfl, _, hL10, hT10⟩
    refine hK_.out _ _ inferInstance (fun _ => ?_)
    clear hK_ K_
    try simp only [Act.put, sA, sB, sC]
    refine goH (i := 20) (by kernel_rfl) rfl (fun K_ hK_ => ?_)
    rw [if_pos (by kernel_rfl)]
    refine wpr_of_list ?_
    ((with_reducible apply (stop_dst (dst := some 23))); (try simp only [Act.put, sA, sB, sC]); ((with_reducible apply (wpl_bslice (dst := some 23))); exact run_fld6 _ _ _ _ _ _ _ _ _ _ _ _ _; intro zc wb _ _ _))
    refine wpList_nil ?_
    unfold onlyN
    refine hK_.out _ _ inferInstance (fun _ => ?_)
    clear hK_ K_
    try simp only [Act.put, sA, sB, sC]
    refine goH (i := 21) (by kernel_rfl) rfl (fun K_ hK_ => ?_)
    go_simp
    refine (fields6 (z := zc) (hL5.later (stepN (w0 := w5)).chg (fun _ _ h => h)) (hL6.later (stepN (w0 := w6)).chg (fun _ _ h => h)) (hL7.later (stepN (w0 := w7)).chg (fun _ _ h => h)) (hL8.later (stepN (w0 := w8)).chg (fun _ _ h => h)) (hL9.later (stepN (w0 := w9)).chg (fun _ _ h => h)) (hL10.later (stepN (w0 := w10)).chg (fun _ _ h => h))).mono ?_
    rintro e w11 ⟨f11, caps11, T11, rfl, _, hL11, hT11⟩
    have hzc : w.heap.size ≤ zc := (NewA.monoS (w0 := w) (NewA.of_born (z := zc) 0)).out ⟨zc, 0, none⟩ rfl
    refine hK_.out _ _ inferInstance (fun _ => ?_)
    clear hK_ K_
    try simp only [Act.put, sA, sB, sC]
    refine' tk 22 _ rfl (by kernel_rfl) (by kernel_rfl) (by kernel_rfl) (fun _ _ _ h => h) (yo (by rfl) fun w' _ => ?_) inferInstance ?_
    rotate_left
    · (go_simp; try with_reducible rfl)
    try simp only [Act.put, sA, sB, sC]
    refine wpAnyH_done (by kernel_rfl) ?_ _
   rotate_left 1
  rotate_left 4
  focus
   rw [if_pos (by kernel_rfl)]
   refine wpr_of_list ?_
   ((with_reducible apply (stop_dst (dst := some 18))); (try simp only [Act.put, sA, sB, sC]); ((with_reducible apply (wpl_bslice (dst := some 18))); exact run_int1 _ _; intro zd wb _ _ _))
   refine wpList_nil ?_
   unfold onlyN
   refine hK_.out _ _ inferInstance (fun _ => ?_)
   clear hK_ K_
   try simp only [Act.put, sA, sB, sC]
   refine goH (i := 2) (by kernel_rfl) rfl (fun K_ hK_ => ?_)
   go_simp
   refine (text_calls (strL t.l) t.l rfl _).mono ?_
   rintro e w5 ⟨f5, caps5, T5, rfl, _, hL5, hT5⟩
   refine hK_.out _ _ inferInstance (fun _ => ?_)
   clear hK_ K_
   try simp only [Act.put, sA, sB, sC]
   refine goH (i := 6) (by kernel_rfl) rfl (fun K_ hK_ => ?_)
   go_simp
   refine (numsC (z := zb) (vs := [t.size]) rfl rfl (show 9 * 1 ≤ 1000000000 by decide)).mono ?_
   rintro e w6 ⟨f6, caps6, T6, rfl, _, hL6, hT6⟩
   have hzb : w.heap.size ≤ zb := (NewA.monoS (w0 := w) (NewA.of_born (z := zb) 0)).out ⟨zb, 0, none⟩ rfl
   refine hK_.out _ _ inferInstance (fun _ => ?_)
   clear hK_ K_
   try simp only [Act.put, sA, sB, sC]
   refine goH (i := 9) (by kernel_rfl) rfl (fun K_ hK_ => ?_)
   go_simp
   refine (fhash_calls t.sum _).mono ?_
   rintro e w7 ⟨f7, caps7, T7, rfl, _, hL7, hT7⟩
   refine hK_.out _ _ inferInstance (fun _ => ?_)
   clear hK_ K_
   try simp only [Act.put, sA, sB, sC]
   refine goH (i := 12) (by kernel_rfl) rfl (fun K_ hK_ => ?_)
   go_simp
   refine (text_calls (strL t.hw) t.hw rfl _).mono ?_
   rintro e w8 ⟨f8, caps8, T8, rfl, _, hL8, hT8⟩
   refine hK_.out _ _ inferInstance (fun _ => ?_)
   clear hK_ K_
   try simp only [Act.put, sA, sB, sC]
   refine goH (i := 16) (by kernel_rfl) rfl (fun K_ hK_ => ?_)
   go_simp
   refine (numsC (z := zd) (vs := [t.ctr]) rfl rfl (show 9 * 1 ≤ 1000000000 by decide)).mono ?_
   rintro e w9 ⟨f9, caps9, T9, rfl, _, hL9, hT9⟩
   have hzd : w.heap.size ≤ zd := (NewA.monoS (w0 := w) (NewA.of_born (z := zd) 0)).out ⟨zd, 0, none⟩ rfl
   refine hK_.out _ _ inferInstance (fun _ => ?_)
   clear hK_ K_
   try simp only [Act.put, sA, sB, sC]
   refine goH (i := 19) (by kernel_rfl) rfl (fun K_ hK_ => ?_)
   go_simp
   refine (text_calls (strL t.ecu) t.ecu rfl _).mono ?_
   rintro e w10 ⟨f10, caps10, T10, rfl, _, hL10, hT10⟩
   refine hK_.out _ _ inferInstance (fun _ => ?_)
   clear hK_ K_
   try simp only [Act.put, sA, sB, sC]
   refine goH (i := 20) (by kernel_rfl) rfl (fun K_ hK_ => ?_)
   rw [if_pos (by kernel_rfl)]
   refine wpr_of_list ?_
   ((with_reducible apply (stop_dst (dst := some 23))); (try simp only [Act.put, sA, sB, sC]); ((with_reducible apply (wpl_bslice (dst := some 23))); exact run_fld6 _ _ _ _ _ _ _ _ _ _ _ _ _; intro zc wb _ _ _))
   refine wpList_nil ?_
   unfold onlyN
   refine hK_.out _ _ inferInstance (fun _ => ?_)
   clear hK_ K_
   try simp only [Act.put, sA, sB, sC]
   refine goH (i := 21) (by kernel_rfl) rfl (fun K_ hK_ => ?_)
   go_simp
   refine (fields6 (z := zc) (hL5.later (stepN (w0 := w5)).chg (fun _ _ h => h)) (hL6.later (stepN (w0 := w6)).chg (fun _ _ h => h)) (hL7.later (stepN (w0 := w7)).chg (fun _ _ h => h)) (hL8.later (stepN (w0 := w8)).chg (fun _ _ h => h)) (hL9.later (stepN (w0 := w9)).chg (fun _ _ h => h)) (hL10.later (stepN (w0 := w10)).chg (fun _ _ h => h))).mono ?_
   rintro e w11 ⟨f11, caps11, T11, rfl, _, hL11, hT11⟩
   have hzc : w.heap.size ≤ zc := (NewA.monoS (w0 := w) (NewA.of_born (z := zc) 0)).out ⟨zc, 0, none⟩ rfl
   refine hK_.out _ _ inferInstance (fun _ => ?_)
   clear hK_ K_
   try simp only [Act.put, sA, sB, sC]
   refine' tk 22 _ rfl (by kernel_rfl) (by kernel_rfl) (by kernel_rfl) (fun _ _ _ h => h) (yo (by rfl) fun w' _ => ?_) inferInstance ?_
   rotate_left
   · (go_simp; try with_reducible rfl)
   try simp only [Act.put, sA, sB, sC]
   refine wpAnyH_done (by kernel_rfl) ?_ _
  rotate_left 1
 rotate_left 5
 focus
  rw [if_pos (by kernel_rfl)]
  refine wpr_of_list ?_
  ((with_reducible apply (stop_dst (dst := some 18))); (try simp only [Act.put, sA, sB, sC]); ((with_reducible apply (wpl_bslice (dst := some 18))); exact run_int1 _ _; intro zd wb _ _ _))
  refine wpList_nil ?_
  unfold onlyN
  refine hK_.out _ _ inferInstance (fun _ => ?_)
  clear hK_ K_
  try simp only [Act.put, sA, sB, sC]
  refine wpAnyH_ready (rs := [2, 5]) (by kernel_rfl) (by simp) (AllReadyH.cons rfl (fun K_ hK_ => ?_) (AllReadyH.cons rfl (fun K_ hK_ => ?_) AllReadyH.nil))
  focus
   go_simp
   refine (text_calls (strL t.l) t.l rfl _).mono ?_
   rintro e w5 ⟨f5, caps5, T5, rfl, _, hL5, hT5⟩
   refine hK_.out _ _ inferInstance (fun _ => ?_)
   clear hK_ K_
   try simp only [Act.put, sA, sB, sC]
   refine goH (i := 5) (by kernel_rfl) rfl (fun K_ hK_ => ?_)
   rw [if_pos (by kernel_rfl)]
   refine wpr_of_list ?_
   ((with_reducible apply (stop_dst (dst := some 8))); (try simp only [Act.put, sA, sB, sC]); ((with_reducible apply (wpl_bslice (dst := some 8))); exact run_int1 _ _; intro zb wb _ _ _))
   refine wpList_nil ?_
   unfold onlyN
   refine hK_.out _ _ inferInstance (fun _ => ?_)
   clear hK_ K_
   try simp only [Act.put, sA, sB, sC]
   refine goH (i := 6) (by kernel_rfl) rfl (fun K_ hK_ => ?_)
   go_simp
   refine (numsC (z := zb) (vs := [t.size]) rfl rfl (show 9 * 1 ≤ 1000000000 by decide)).mono ?_
   rintro e w6 ⟨f6, caps6, T6, rfl, _, hL6, hT6⟩
   have hzb : w.heap.size ≤ zb := (NewA.monoS (w0 := w) (NewA.of_born (z := zb) 0)).out ⟨zb, 0, none⟩ rfl
   refine hK_.out _ _ inferInstance (fun _ => ?_)
   clear hK_ K_
   try simp only [Act.put, sA, sB, sC]
   refine goH (i := 9) (by kernel_rfl) rfl (fun K_ hK_ => ?_)
   go_simp
   refine (fhash_calls t.sum _).mono ?_
   rintro e w7 ⟨f7, caps7, T7, rfl, _, hL7, hT7⟩
   refine hK_.out _ _ inferInstance (fun _ => ?_)
   clear hK_ K_
   try simp only [Act.put, sA, sB, sC]
   refine goH (i := 12) (by kernel_rfl) rfl (fun K_ hK_ => ?_)
   go_simp
   refine (text_calls (strL t.hw) t.hw rfl _).mono ?_
   rintro e w8 ⟨f8, caps8, T8, rfl, _, hL8, hT8⟩
   refine hK_.out _ _ inferInstance (fun _ => ?_)
   clear hK_ K_
   try simp only [Act.put, sA, sB, sC]
   refine goH (i := 16) (by kernel_rfl) rfl (fun K_ hK_ => ?_)
   go_simp
   refine (numsC (z := zd) (vs := [t.ctr]) rfl rfl (show 9 * 1 ≤ 1000000000 by decide)).mono ?_
   rintro e w9 ⟨f9, caps9, T9, rfl, _, hL9, hT9⟩
   have hzd : w.heap.size ≤ zd := (NewA.monoS (w0 := w) (NewA.of_born (z := zd) 0)).out ⟨zd, 0, none⟩ rfl
   refine hK_.out _ _ inferInstance (fun _ => ?_)
   clear hK_ K_
   try simp only [Act.put, sA, sB, sC]
   refine goH (i := 19) (by kernel_rfl) rfl (fun K_ hK_ => ?_)
   go_simp
   refine (text_calls (strL t.ecu) t.ecu rfl _).mono ?_
   rintro e w10 ⟨f10, caps10, T10, rfl, _, hL10, hT10⟩
   refine hK_.out _ _ inferInstance (fun _ => ?_)
   clear hK_ K_
   try simp only [Act.put, sA, sB, sC]
   refine goH (i := 20) (by kernel_rfl) rfl (fun K_ hK_ => ?_)
   rw [if_pos (by kernel_rfl)]
   refine wpr_of_list ?_
   ((with_reducible apply (stop_dst (dst := some 23))); (try simp only [Act.put, sA, sB, sC]); ((with_reducible apply (wpl_bslice (dst := some 23))); exact run_fld6 _ _ _ _ _ _ _ _ _ _ _ _ _; intro zc wb _ _ _))
   refine wpList_nil ?_
   unfold onlyN
   refine hK_.out _ _ inferInstance (fun _ => ?_)
   clear hK_ K_
   try simp only [Act.put, sA, sB, sC]
   refine goH (i := 21) (by kernel_rfl) rfl (fun K_ hK_ => ?_)
   go_simp
   refine (fields6 (z := zc) (hL5.later (stepN (w0 := w5)).chg (fun _ _ h => h)) (hL6.later (stepN (w0 := w6)).chg (fun _ _ h => h)) (hL7.later (stepN (w0 := w7)).chg (fun _ _ h => h)) (hL8.later (stepN (w0 := w8)).chg (fun _ _ h => h)) (hL9.later (stepN (w0 := w9)).chg (fun _ _ h => h)) (hL10.later (stepN (w0 := w10)).chg (fun _ _ h => h))).mono ?_
   rintro e w11 ⟨f11, caps11, T11, rfl, _, hL11, hT11⟩
   have hzc : w.heap.size ≤ zc := (NewA.monoS (w0 := w) (NewA.of_born (z := zc) 0)).out ⟨zc, 0, none⟩ rfl
   refine hK_.out _ _ inferInstance (fun _ => ?_)
   clear hK_ K_
   try simp only [Act.put, sA, sB, sC]
   refine' tk 22 _ rfl (by kernel_rfl) (by kernel_rfl) (by kernel_rfl) (fun _ _ _ h => h) (yo (by rfl) fun w' _ => ?_) inferInstance ?_
   rotate_left
   · (go_simp; try with_reducible rfl)
   try simp only [Act.put, sA, sB, sC]
   refine wpAnyH_done (by kernel_rfl) ?_ _
  rotate_left 1
  focus
   rw [if_pos (by kernel_rfl)]
   refine wpr_of_list ?_
   ((with_reducible apply (stop_dst (dst := some 8))); (try simp only [Act.put, sA, sB, sC]); ((with_reducible apply (wpl_bslice (dst := some 8))); exact run_int1 _ _; intro zb wb _ _ _))
   refine wpList_nil ?_
   unfold onlyN
   refine hK_.out _ _ inferInstance (fun _ => ?_)
   clear hK_ K_
   try simp only [Act.put, sA, sB, sC]
   refine goH (i := 2) (by kernel_rfl) rfl (fun K_ hK_ => ?_)
   go_simp
   refine (text_calls (strL t.l) t.l rfl _).mono ?_
   rintro e w5 ⟨f5, caps5, T5, rfl, _, hL5, hT5⟩
   refine hK_.out _ _ inferInstance (fun _ => ?_)
   clear hK_ K_
   try simp only [Act.put, sA, sB, sC]
   refine goH (i := 6) (by kernel_rfl) rfl (fun K_ hK_ => ?_)
   go_simp
   refine (numsC (z := zb) (vs := [t.size]) rfl rfl (show 9 * 1 ≤ 1000000000 by decide)).mono ?_
   rintro e w6 ⟨f6, caps6, T6, rfl, _, hL6, hT6⟩
   have hzb : w.heap.size ≤ zb := (NewA.monoS (w0 := w) (NewA.of_born (z := zb) 0)).out ⟨zb, 0, none⟩ rfl
   refine hK_.out _ _ inferInstance (fun _ => ?_)
   clear hK_ K_
   try simp only [Act.put, sA, sB, sC]
   refine goH (i := 9) (by kernel_rfl) rfl (fun K_ hK_ => ?_)
   go_simp
   refine (fhash_calls t.sum _).mono ?_
   rintro e w7 ⟨f7, caps7, T7, rfl, _, hL7, hT7⟩
   refine hK_.out _ _ inferInstance (fun _ => ?_)
   clear hK_ K_
   try simp only [Act.put, sA, sB, sC]
   refine goH (i := 12) (by kernel_rfl) rfl (fun K_ hK_ => ?_)
   go_simp
   refine (text_calls (strL t.hw) t.hw rfl _).mono ?_
   rintro e w8 ⟨f8, caps8, T8, rfl, _, hL8, hT8⟩
   refine hK_.out _ _ inferInstance (fun _ => ?_)
   clear hK_ K_
   try simp only [Act.put, sA, sB, sC]
   refine goH (i := 16) (by kernel_rfl) rfl (fun K_ hK_ => ?_)
   go_simp
   refine (numsC (z := zd) (vs := [t.ctr]) rfl rfl (show 9 * 1 ≤ 1000000000 by decide)).mono ?_
   rintro e w9 ⟨f9, caps9, T9, rfl, _, hL9, hT9⟩
   have hzd : w.heap.size ≤ zd := (NewA.monoS (w0 := w) (NewA.of_born (z := zd) 0)).out ⟨zd, 0, none⟩ rfl
   refine hK_.out _ _ inferInstance (fun _ => ?_)
   clear hK_ K_
   try simp only [Act.put, sA, sB, sC]
   refine goH (i := 19) (by kernel_rfl) rfl (fun K_ hK_ => ?_)
   go_simp
   refine (text_calls (strL t.ecu) t.ecu rfl _).mono ?_
   rintro e w10 ⟨f10, caps10, T10, rfl, _, hL10, hT10⟩
   refine hK_.out _ _ inferInstance (fun _ => ?_)
   clear hK_ K_
   try simp only [Act.put, sA, sB, sC]
   refine goH (i := 20) (by kernel_rfl) rfl (fun K_ hK_ => ?_)
   rw [if_pos (by kernel_rfl)]
   refine wpr_of_list ?_
   ((with_reducible apply (stop_dst (dst := some 23))); (try simp only [Act.put, sA, sB, sC]); ((with_reducible apply (wpl_bslice (dst := some 23))); exact run_fld6 _ _ _ _ _ _ _ _ _ _ _ _ _; intro zc wb _ _ _))
   refine wpList_nil ?_
   unfold onlyN
   refine hK_.out _ _ inferInstance (fun _ => ?_)
   clear hK_ K_
   try simp only [Act.put, sA, sB, sC]
   refine goH (i := 21) (by kernel_rfl) rfl (fun K_ hK_ => ?_)
   go_simp
   refine (fields6 (z := zc) (hL5.later (stepN (w0 := w5)).chg (fun _ _ h => h)) (hL6.later (stepN (w0 := w6)).chg (fun _ _ h => h)) (hL7.later (stepN (w0 := w7)).chg (fun _ _ h => h)) (hL8.later (stepN (w0 := w8)).chg (fun _ _ h => h)) (hL9.later (stepN (w0 := w9)).chg (fun _ _ h => h)) (hL10.later (stepN (w0 := w10)).chg (fun _ _ h => h))).mono ?_
   rintro e w11 ⟨f11, caps11, T11, rfl, _, hL11, hT11⟩
   have hzc : w.heap.size ≤ zc := (NewA.monoS (w0 := w) (NewA.of_born (z := zc) 0)).out ⟨zc, 0, none⟩ rfl
   refine hK_.out _ _ inferInstance (fun _ => ?_)
   clear hK_ K_
   try simp only [Act.put, sA, sB, sC]
   refine' tk 22 _ rfl (by kernel_rfl) (by kernel_rfl) (by kernel_rfl) (fun _ _ _ h => h) (yo (by rfl) fun w' _ => ?_) inferInstance ?_
   rotate_left
   · (go_simp; try with_reducible rfl)
   try simp only [Act.put, sA, sB, sC]
   refine wpAnyH_done (by kernel_rfl) ?_ _
  rotate_left 1
 rotate_left 2
 all_goals
  go_wp2_with fail
  go_ret
  refine ⟨f11, caps11, T11, rfl, stepN, hL11, fun x hx => ?_⟩
  rcases hT11 x hx with h | rfl | h | h | h | h | h | h
  · exact .inl (Nat.le_trans (stepN (w0 := w)).chg.size h)
  · exact .inl hzc
  · exact .inl (Nat.le_trans (stepN (w0 := w)).chg.size (hT5 x h))
  · rcases hT6 x h with h | rfl
    · exact .inl (Nat.le_trans (stepN (w0 := w)).chg.size h)
    · exact .inl hzb
  · exact .inl (Nat.le_trans (stepN (w0 := w)).chg.size (hT7 x h))
  · exact .inl (Nat.le_trans (stepN (w0 := w)).chg.size (hT8 x h))
  · rcases hT9 x h with h | rfl
    · exact .inl (Nat.le_trans (stepN (w0 := w)).chg.size h)
    · exact .inl hzd
  · exact .inl (Nat.le_trans (stepN (w0 := w)).chg.size (hT10 x h))
end Go.Proofs.YtgjnjhhhbkidbaaGreat
end
section
open Go Go.RowKit
namespace Go.Proofs.YtgjnjhhhbkidbaaGreat
/-- the state behind a digest -/
def RS.hnx (s : RS) : RS := (s.raw 32).2
theorem RS.hnx_le (s : RS) : s.hnx.b.length ≤ s.b.length := by
 unfold RS.hnx RS.raw
 split
 · exact Nat.zero_le _
 · show (s.b.drop _).length ≤ s.b.length
   rw [List.length_drop]
   omega
def tgTk (s : RS) : TargetR × RS := (⟨s.row.1, (s.row.2.num.1 : Nat), s.row.2.num.2.hsh, s.row.2.num.2.hnx.row.1, (s.row.2.num.2.hnx.row.2.num.1 : Nat), s.row.2.num.2.hnx.row.2.num.2.row.1⟩, s.row.2.num.2.hnx.row.2.num.2.row.2)
theorem numB_back {s : RS} (h : s.num.2.e = false) : s.e = false ∧ s.b = encAll [(s.num.1 : Int)] ++ s.num.2.b := by
 obtain ⟨a1, a2, a3⟩ := num_back h
 exact ⟨a1, by rw [encN a3]; exact a2⟩
theorem hnx_back {s : RS} (h : s.hnx.e = false) : s.e = false ∧ s.b = s.hsh.l ++ s.hnx.b := hsh_back h
theorem tgTakes : Takes tgTk tgE := ⟨fun s => by
 have h1 := RS.row_le s
 have h2 := RS.num_le s.row.2
 have h3 := RS.hnx_le s.row.2.num.2
 have h4 := RS.row_le s.row.2.num.2.hnx
 have h5 := RS.num_le s.row.2.num.2.hnx.row.2
 have h6 := RS.row_le s.row.2.num.2.hnx.row.2.num.2
 show s.row.2.num.2.hnx.row.2.num.2.row.2.b.length ≤ _
 omega, fun s h => by
 obtain ⟨f1, f2⟩ := row_back (s := s.row.2.num.2.hnx.row.2.num.2) h
 obtain ⟨e1, e2⟩ := numB_back (s := s.row.2.num.2.hnx.row.2) f1
 obtain ⟨d1, d2⟩ := row_back (s := s.row.2.num.2.hnx) e1
 obtain ⟨c1, c2⟩ := hnx_back (s := s.row.2.num.2) d1
 obtain ⟨b1, b2⟩ := numB_back (s := s.row.2) c1
 obtain ⟨a1, a2⟩ := row_back (s := s) b1
 refine ⟨a1, ?_⟩
 show s.b = (encRow s.row.1 ++ (encAll [(s.row.2.num.1 : Int)] ++ (s.row.2.num.2.hsh.l ++ (encRow s.row.2.num.2.hnx.row.1 ++ (encAll [(s.row.2.num.2.hnx.row.2.num.1 : Int)] ++ encRow s.row.2.num.2.hnx.row.2.num.2.row.1))))) ++ s.row.2.num.2.hnx.row.2.num.2.row.2.b
 rw [List.append_assoc, List.append_assoc, List.append_assoc, List.append_assoc, List.append_assoc, ← f2, ← e2, ← d2, ← c2, ← b2]
 exact a2⟩
/-- a target's cells, loosely -/
def tgV (a b : Value) (h : H32) (x y z : Value) : List Value := a :: b :: (bs h.l ++ [x, y, z])
theorem tgV_len (a b : Value) (h : H32) (x y z : Value) : (tgV a b h x y z).toArray.size = 37 := by simp [tgV, bs_length, h.len]
theorem tgV_34 (a b : Value) (h : H32) (x y z v : Value) : (tgV a b h x y z).toArray.setIfInBounds 34 v = (tgV a b h v y z).toArray := by
 rw [sA]
 congr 1
 show a :: b :: (bs h.l ++ [x, y, z]).set 32 v = _
 rw [List.set_append_right _ _ (by rw [bs32]; exact Nat.le_refl _), bs32]
 rfl
theorem tgV_35 (a b : Value) (h : H32) (x y z v : Value) : (tgV a b h x y z).toArray.setIfInBounds 35 v = (tgV a b h x v z).toArray := by
 rw [sA]
 congr 1
 show a :: b :: (bs h.l ++ [x, y, z]).set 33 v = _
 rw [List.set_append_right _ _ (by rw [bs32]; decide), bs32]
 rfl
theorem tgV_36 (a b : Value) (h : H32) (x y z v : Value) : (tgV a b h x y z).toArray.setIfInBounds 36 v = (tgV a b h x y v).toArray := by
 rw [sA]
 congr 1
 show a :: b :: (bs h.l ++ [x, y, z]).set 34 v = _
 rw [List.set_append_right _ _ (by rw [bs32]; decide), bs32]
 rfl
end Go.Proofs.YtgjnjhhhbkidbaaGreat
end
section
open Go Go.RowKit
namespace Go.Proofs.YtgjnjhhhbkidbaaGreat
/-- one target as a slice -/
theorem run_tg1 (r : TargetR) (w : World) : (Instr.buildSlice 40 1 #[(0, .agg (RowC.enc r).toArray)]).run Tryz.prog w = .ok (.slice (some ⟨w.heap.size, 0, none⟩) 1 1) (w.alloc (.cells (cellsOf [r]).toArray 42)) := by
 have hs : (RowC.enc r).toArray.size = 37 := RowC.len r
 have hz : ∀ w, (zeroValue 42).run Tryz.prog w = .ok (.agg zeroTg) w := fun _ => by kernel_rfl
 have hi : ∀ w, (sizeOf 42).run Tryz.prog w = .ok 37 w := fun _ => by kernel_rfl
 have hz1 : zeroTg.size = 37 := rfl
 have he : (cellsOf [r]).toArray = (RowC.enc r).toArray.toList.toArray := by simp [cellsOf]
 rw [he]
 obtain ⟨Z, hZ⟩ : ∃ Z : Array Value, Z = zeroTg := ⟨_, rfl⟩
 obtain ⟨R, hR⟩ : ∃ R : Array Value, R = (RowC.enc r).toArray := ⟨_, rfl⟩
 rw [← hZ] at hz hz1
 rw [← hR] at hs ⊢
 clear hZ hR he
 unfold Instr.buildSlice
 simp only [Sem.run_bind, run_underlying Tryz.underlying40, Result.andThen_ok, hi]
 obtain ⟨W, hW⟩ : ∃ W : Array Value, W = (Array.range (1 * 37)).map (Z[· % Z.size]!) := ⟨_, rfl⟩
 have hWs : W.size = 37 := by rw [hW]; simp
 have hf : Instr.fill (fun i => some (i * 37, 37)) W [(0, Value.agg R)] = some R.toList.toArray := by
  rw [fill_step _ _ 0 (.agg R) _ (off := 0) (size := 37) rfl hs (by rw [hWs]; decide)]
  have e : lay 0 R W = R.toList.toArray := by
   unfold lay
   congr 1
   simp only [List.take_zero, List.nil_append, Nat.zero_add, hs]
   rw [List.drop_of_length_le (by simp [hWs]), List.append_nil]
  show Instr.fill _ (lay 0 R W) [] = _
  rw [e]
  rfl
 rw [hW] at hf
 simp [hz, Value.cells, hf, newRow]
end Go.Proofs.YtgjnjhhhbkidbaaGreat
end
