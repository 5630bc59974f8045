/- WzB, UnD, RoM -/
import Derived.Test.YtmnapacibpnodaaGreatUeWzA
import Derived.Test.YtmnapacibpnodaaGreatUeWuC
import Derived.Test.YtmnapacibpnodaaGreatUeUnC
import Derived.Test.YtmnapacibpnodaaGreatUeTkM
section
open Go Go.RowKit
namespace Go.Proofs.YtmnapacibpnodaaGreat
theorem encRow_le (l : List UInt8) (h : l.length ≤ 1000000000) : (encRow l).length ≤ l.length + 9 := by
  have h1 := encAll_len [(l.length : Int)]
  rw [encAll_one] at h1
  have h2 : clampN (l.length : Int) = l.length := by unfold clampN; omega
  rw [h2] at h1
  unfold encRow
  rw [List.length_append]
  simp at h1
  omega
instance (priority := 600) Sub.grewW (w0 w : World) (A A' : Option Addr) (T : Nat → Prop) [g : Grew w A A'] [s : Sub w0 (rowOf A) T] [n : SzLe w0 w] : Sub w0 (rowOf A') T := ⟨fun x hx ⟨ad, e, hk⟩ => by
  rcases g.out with h1 | h1
  · exact s.out x hx ⟨ad, by rw [← h1]; exact e, hk⟩
  · have h2 := n.out
    rw [h1] at e
    injection e with e
    subst e
    have h3 : w.heap.size = x := hk
    omega⟩
set_option maxRecDepth 100000 in
theorem rText_calls (s : ByteArray) (l : List UInt8) (hl : s.data.toList = l) (hx : l.length ≤ 1000000000) (w : World) :
    Calls Tryz.prog 38 #[.string s] w fun e w' => ∃ A n c, e = .returned (.slice A n c) ∧ Hid (Fresh w w' A n c (encRow l)) := by
  go_enter Tryz.func38, Tryz.ntmps38
  go_wp2_with ((with_reducible apply (wpl_strN (l := l))); (exact rfl); (exact hl); (exact Tryz.underlying9); (exact Tryz.underlying34); (exact Tryz.underlying5); intro cs wz _ _)
  refine (refBytes_calls (some ⟨w.heap.size, 0, none⟩) l.length cs l wz (inferInstance : HR wz (some ⟨w.heap.size, 0, none⟩) (bs l)).out rfl hx).mono ?_
  rintro e w5 ⟨A5, n5, c5, rfl, hF⟩
  have HF : Hid (Fresh w w5 A5 n5 c5 (encRow l)) := Lib.hid ⟨hF.out.own, hF.out.len, (stepN (w0 := w) (w := wz)).chg.trans hF.out.chg (fun _ _ h => h), fun ad e => Nat.le_trans (stepN (w0 := w) (w := wz)).chg.size (hF.out.new ad e)⟩
  clear hF
  go_wp2_with fail
  go_ret
  exact ⟨A5, n5, c5, rfl, HF⟩
theorem rep_tail {w : World} {z : Nat} {u n : ByteArray} {h : H32} {c k : Int} {t : TypeId} (hb : HB w z t (repL u n h c k).toArray) : HR w (some ⟨z, 2, none⟩) (bs h.l) := ⟨by
  have h1 := (hb.rdL.drop 2).take 32
  rw [rep_sum] at h1
  exact h1⟩
set_option maxRecDepth 100000 in
set_option maxHeartbeats 3200000 in
theorem rEncodeReport_calls (u n : ByteArray) (hh : H32) (c k : Int) (l m : List UInt8) (hl : u.data.toList = l) (hm : n.data.toList = m) (hu : u.size ≤ 9223372036854775807) (hn : n.size ≤ 9223372036854775807) (w : World) :
    Calls Tryz.prog 18 #[.agg (repL u n hh c k).toArray] w (EncPost (repB l m c k) (encAll [5] ++ (encRow l ++ (encRow m ++ (hh.l ++ encAll [c, k])))) w) := by
  have hlen := repL_len u n hh c k
  have hone := repL_one u n hh c k
  unfold EncPost
  rcases hb : repB l m c k with _ | _
  · go_enter Tryz.func18, Tryz.ntmps18
    go_wp2_with (first | ((with_reducible apply (wpl_box_agg (dst := some 1))); (exact rfl); intro zt wzt _ _ _) | ((with_reducible apply wpl_loadrow); (exact rfl); infer_instance; infer_instance; (first | (with_reducible assumption) | (with_reducible exact H32.size _) | kernel_rfl)))
    refine (rIsReport_calls u n hh c k l m hl hm hu hn _).mono ?_
    rw [hb]
    rintro e w5 ⟨rfl, _⟩
    go_wp2_with fail
    go_ret2
    exact ⟨stepN, rfl⟩
  · have hrb := hb
    unfold repB at hrb
    simp only [Bool.and_eq_true] at hrb
    have hl12 : l.length ≤ 12 := nameL_le hrb.1.1.1
    have hm12 : m.length ≤ 12 := nameE_le hrb.1.1.2
    have HL : Hid ((encRow l).length ≤ 21) := Lib.hid (by have := encRow_le l (by omega); omega)
    have HM : Hid ((encRow m).length ≤ 21) := Lib.hid (by have := encRow_le m (by omega); omega)
    have H5 : Hid ((encAll [5]).length ≤ 9) := Lib.hid (encAll_len [5])
    have HC : Hid ((encAll [c, k]).length ≤ 18) := Lib.hid (encAll_len [c, k])
    have hl9 : l.length ≤ 1000000000 := by omega
    have hm9 : m.length ≤ 1000000000 := by omega
    clear hrb hl12 hm12
    go_enter Tryz.func18, Tryz.ntmps18
    go_wp2_with (first | ((with_reducible apply (wpl_box_agg (dst := some 1))); (exact rfl); intro zt wzt _ _ _) | ((with_reducible apply wpl_loadrow); (exact rfl); infer_instance; infer_instance; (first | (with_reducible assumption) | (with_reducible exact H32.size _) | kernel_rfl)))
    refine (rIsReport_calls u n hh c k l m hl hm hu hn _).mono ?_
    rw [hb]
    rintro e w5 ⟨rfl, _⟩
    go_wp2_with fail
    have n5 : Nw w w5 := inferInstance
    have hz5 : HB w5 zt 43 (repL u n hh c k).toArray := inferInstance
    refine wp_region_N (nowhere) (by kernel_rfl) (fun wd _ _ => ?_)
    refine' takeH (i := 1) (v := _) rfl (by kernel_rfl) (by kernel_rfl) (by kernel_rfl) (fun _ _ _ h => h) (yields_of (by rfl) (fun w' _ => ?_)) inferInstance ?_
    rotate_left
    · (go_simp; try with_reducible rfl)
    try simp only [Act.put, sA]; try simp only [sB, sC]
    refine' takeH (i := 2) (v := _) rfl (by kernel_rfl) (by kernel_rfl) (by kernel_rfl) (fun _ _ _ h => h) (yields_of (by rfl) (fun w' _ => ?_)) inferInstance ?_
    rotate_left
    · ((with_reducible apply ev_loadcellN); (exact rfl); infer_instance; infer_instance; (exact rep_at0 _ _ _ _ _))
    try simp only [Act.put, sA]; try simp only [sB, sC]
    refine' takeH (i := 5) (v := _) rfl (by kernel_rfl) (by kernel_rfl) (by kernel_rfl) (fun _ _ _ h => h) (yields_of (by rfl) (fun w' _ => ?_)) inferInstance ?_
    rotate_left
    · (go_simp; try with_reducible rfl)
    try simp only [Act.put, sA]; try simp only [sB, sC]
    refine' takeH (i := 6) (v := _) rfl (by kernel_rfl) (by kernel_rfl) (by kernel_rfl) (fun _ _ _ h => h) (yields_of (by rfl) (fun w' _ => ?_)) inferInstance ?_
    rotate_left
    · ((with_reducible apply ev_loadcellN); (exact rfl); infer_instance; infer_instance; (exact rep_at1 _ _ _ _ _))
    try simp only [Act.put, sA]; try simp only [sB, sC]
    refine goH (i := 0) (by kernel_rfl) rfl (fun K_ hK_ => ?_)
    go_simp
    refine (refNum_calls 5 _).mono ?_
    rintro e w6 ⟨A6, n6, c6, rfl, hF⟩
    have st6 : Step nowhere _ w6 := ⟨hF.out.chg⟩
    have hA6 : NewA w5 A6 := ⟨fun ad e => Nat.le_trans (stepN (w0 := w5)).chg.size (hF.out.new ad e)⟩
    have hA6d : NewA wd A6 := ⟨fun ad e => Nat.le_trans (stepN (w0 := wd)).chg.size (hF.out.new ad e)⟩
    have ho6 : HO w6 5 1 A6 n6 c6 (bs (encAll [5])) := by
      rw [encAll_one]
      exact fresh_hoW hF.out
    have HN6 : Hid (n6 = (encAll [5]).length) := Lib.hid (by rw [encAll_one]; exact hF.out.len)
    have hn6 : n6 ≤ 9 := by
      have := HN6.out
      have := H5.out
      omega
    clear hF
    refine hK_.out _ _ inferInstance (fun _ => ?_)
    clear hK_ K_
    try simp only [Act.put, sA]; try simp only [sB, sC]
    refine goH (i := 3) (by kernel_rfl) rfl (fun K_ hK_ => ?_)
    go_simp
    refine (rText_calls u l hl hl9 _).mono ?_
    rintro e w7 ⟨A7, n7, c7, rfl, hF⟩
    have st7 : Step nowhere _ w7 := ⟨hF.out.chg⟩
    have hr7 : HR w7 A7 (bs (encRow l)) := ⟨hF.out.own.rd⟩
    have HN7 : Hid (n7 = (encRow l).length) := Lib.hid hF.out.len
    have hl7 : (encRow l).length = n7 := hF.out.len.symm
    have hn7 : n7 ≤ 21 := by
      have := HL.out
      omega
    clear hF
    refine hK_.out _ _ inferInstance (fun _ => ?_)
    clear hK_ K_
    try simp only [Act.put, sA]; try simp only [sB, sC]
    refine goH (i := 4) (by kernel_rfl) rfl (fun K_ hK_ => ?_)
    rw [if_pos (by kernel_rfl)]
    refine wpr_of_list ?_
    (first | ((with_reducible apply wpl_appendB); (exact rfl); (exact rfl); infer_instance; (first | exact inferInstance | exact ⟨Own.nil _ _ _⟩); infer_instance; (first | (with_reducible assumption) | (with_reducible exact H32.len _) | (focus (simp; done)) | omega); (first | (with_reducible assumption) | omega); intro A' c' wa _ _ _ hcap) | ((with_reducible apply wpl_appendH); (exact rfl); (exact rfl); infer_instance; (first | exact inferInstance | exact ⟨Own.nil _ _ _⟩); infer_instance; (first | (with_reducible assumption) | omega); intro A' c' wa _ _ _ hcap) | ((with_reducible apply (wpl_appendR (α := H32))); (exact rfl); (exact rfl); infer_instance; (first | exact inferInstance | exact ⟨Own.nil _ _ _⟩); infer_instance; (exact rfl); (first | (with_reducible assumption) | (with_reducible exact H32.len _) | (focus (simp; done)) | omega); (first | (with_reducible assumption) | omega); (decide); (decide); intro A' c' wa _ _ _ hcap))
    refine wpList_nil ?_
    unfold onlyN
    refine hK_.out _ _ inferInstance (fun _ => ?_)
    clear hK_ K_
    try simp only [Act.put, sA]; try simp only [sB, sC]
    refine goH (i := 7) (by kernel_rfl) rfl (fun K_ hK_ => ?_)
    go_simp
    refine (rText_calls n m hm hm9 _).mono ?_
    rintro e w9 ⟨A9, n9, c9, rfl, hF⟩
    have st9 : Step nowhere _ w9 := ⟨hF.out.chg⟩
    have hr9 : HR w9 A9 (bs (encRow m)) := ⟨hF.out.own.rd⟩
    have HN9 : Hid (n9 = (encRow m).length) := Lib.hid hF.out.len
    have hl9' : (encRow m).length = n9 := hF.out.len.symm
    have hn9 : n9 ≤ 21 := by
      have := HM.out
      omega
    clear hF
    refine hK_.out _ _ inferInstance (fun _ => ?_)
    clear hK_ K_
    try simp only [Act.put, sA]; try simp only [sB, sC]
    refine goH (i := 8) (by kernel_rfl) rfl (fun K_ hK_ => ?_)
    rw [if_pos (by kernel_rfl)]
    refine wpr_of_list ?_
    (first | ((with_reducible apply wpl_appendB); (exact rfl); (exact rfl); infer_instance; (first | exact inferInstance | exact ⟨Own.nil _ _ _⟩); infer_instance; (first | (with_reducible assumption) | (with_reducible exact H32.len _) | (focus (simp; done)) | omega); (first | (with_reducible assumption) | omega); intro A' c' wa _ _ _ hcap) | ((with_reducible apply wpl_appendH); (exact rfl); (exact rfl); infer_instance; (first | exact inferInstance | exact ⟨Own.nil _ _ _⟩); infer_instance; (first | (with_reducible assumption) | omega); intro A' c' wa _ _ _ hcap) | ((with_reducible apply (wpl_appendR (α := H32))); (exact rfl); (exact rfl); infer_instance; (first | exact inferInstance | exact ⟨Own.nil _ _ _⟩); infer_instance; (exact rfl); (first | (with_reducible assumption) | (with_reducible exact H32.len _) | (focus (simp; done)) | omega); (first | (with_reducible assumption) | omega); (decide); (decide); intro A' c' wa _ _ _ hcap))
    refine wpList_nil ?_
    unfold onlyN
    refine hK_.out _ _ inferInstance (fun _ => ?_)
    clear hK_ K_
    try simp only [Act.put, sA]; try simp only [sB, sC]
    refine' takeH (i := 9) (v := _) rfl (by kernel_rfl) (by kernel_rfl) (by kernel_rfl) (fun _ _ _ h => h) (yields_of (by rfl) (fun w' _ => ?_)) inferInstance ?_
    rotate_left
    · (go_simp; try with_reducible rfl)
    try simp only [Act.put, sA]; try simp only [sB, sC]
    refine wpAnyH_done (by kernel_rfl) ?_ _
    go_wp2_with fail
    have hrt : HR wa (some ⟨zt, 2, none⟩) (bs hh.l) := rep_tail (inferInstance : HB wa zt 43 (repL u n hh c k).toArray)
    have hAa : NewA w A' := NewA.monoS (inferInstance : NewA wd A')
    have st3 : Step nowhere w wa := stepN
    refine wp_region_N ((rowOf A')) (by kernel_rfl) (fun wd _ _ => ?_)
    refine' takeH (i := 0) (v := _) rfl (by kernel_rfl) (by kernel_rfl) (by kernel_rfl) (fun _ _ _ h => h) (yields_of (by rfl) (fun w' _ => ?_)) inferInstance ?_
    rotate_left
    · (go_simp; try with_reducible rfl)
    try simp only [Act.put, sA]; try simp only [sB, sC]
    refine' takeH (i := 1) (v := _) rfl (by kernel_rfl) (by kernel_rfl) (by kernel_rfl) (fun _ _ _ h => h) (yields_of (by rfl) (fun w' _ => ?_)) inferInstance ?_
    rotate_left
    · (go_simp; try with_reducible rfl)
    try simp only [Act.put, sA]; try simp only [sB, sC]
    refine' takeH (i := 2) (v := _) rfl (by kernel_rfl) (by kernel_rfl) (by kernel_rfl) (fun _ _ _ h => h) (yields_of (by rfl) (fun w' _ => ?_)) inferInstance ?_
    rotate_left
    · ((with_reducible apply (ev_sl_arrK (m := 32) (e := 5))); (exact rfl); (exact Tryz.underlying26); (kernel_rfl))
    try simp only [Act.put, sA]; try simp only [sB, sC]
    refine' takeH (i := 4) (v := _) rfl (by kernel_rfl) (by kernel_rfl) (by kernel_rfl) (fun _ _ _ h => h) (yields_of (by rfl) (fun w' _ => ?_)) inferInstance ?_
    rotate_left
    · (go_simp; try with_reducible rfl)
    try simp only [Act.put, sA]; try simp only [sB, sC]
    refine' takeH (i := 5) (v := _) rfl (by kernel_rfl) (by kernel_rfl) (by kernel_rfl) (fun _ _ _ h => h) (yields_of (by rfl) (fun w' _ => ?_)) inferInstance ?_
    rotate_left
    · ((with_reducible apply ev_loadcellN); (exact rfl); infer_instance; infer_instance; (exact rep_at34 _ _ _ _ _))
    try simp only [Act.put, sA]; try simp only [sB, sC]
    refine' takeH (i := 6) (v := _) rfl (by kernel_rfl) (by kernel_rfl) (by kernel_rfl) (fun _ _ _ h => h) (yields_of (by rfl) (fun w' _ => ?_)) inferInstance ?_
    rotate_left
    · (go_simp; try with_reducible rfl)
    try simp only [Act.put, sA]; try simp only [sB, sC]
    refine' takeH (i := 7) (v := _) rfl (by kernel_rfl) (by kernel_rfl) (by kernel_rfl) (fun _ _ _ h => h) (yields_of (by rfl) (fun w' _ => ?_)) inferInstance ?_
    rotate_left
    · ((with_reducible apply ev_loadcellN); (exact rfl); infer_instance; infer_instance; (exact rep_at35 _ _ _ _ _))
    try simp only [Act.put, sA]; try simp only [sB, sC]
    refine wpAnyH_ready (rs := [3, 8]) (by kernel_rfl) (by simp) (AllReadyH.cons rfl (fun K_ hK_ => ?_) (AllReadyH.cons rfl (fun K_ hK_ => ?_) AllReadyH.nil))
    focus
      rw [if_pos (by kernel_rfl)]
      refine wpr_of_list ?_
      (first | ((with_reducible apply (stop_dst (dst := some 25))); (try simp only [Act.put, sA, sB, sC]); ((with_reducible apply (wpl_bslice (dst := some 25))); (exact run_int2 _ _ _); intro zi wb _ _ _)) | ((with_reducible apply wpl_appendB); (exact rfl); (exact rfl); infer_instance; (first | exact inferInstance | exact ⟨Own.nil _ _ _⟩); infer_instance; (first | (with_reducible assumption) | (with_reducible exact H32.len _) | (focus (simp; done)) | omega); (first | (with_reducible assumption) | omega); intro A' c' wa _ _ _ hcap) | ((with_reducible apply wpl_appendH); (exact rfl); (exact rfl); infer_instance; (first | exact inferInstance | exact ⟨Own.nil _ _ _⟩); infer_instance; (first | (with_reducible assumption) | omega); intro A' c' wa _ _ _ hcap) | ((with_reducible apply (wpl_appendR (α := H32))); (exact rfl); (exact rfl); infer_instance; (first | exact inferInstance | exact ⟨Own.nil _ _ _⟩); infer_instance; (exact rfl); (first | (with_reducible assumption) | (with_reducible exact H32.len _) | (focus (simp; done)) | omega); (first | (with_reducible assumption) | omega); (decide); (decide); intro A' c' wa _ _ _ hcap))
      refine wpList_nil ?_
      unfold onlyN
      refine hK_.out _ _ inferInstance (fun _ => ?_)
      clear hK_ K_
      try simp only [Act.put, sA]; try simp only [sB, sC]
      refine goH (i := 8) (by kernel_rfl) rfl (fun K_ hK_ => ?_)
      rw [if_pos (by kernel_rfl)]
      refine wpr_of_list ?_
      (first | ((with_reducible apply (stop_dst (dst := some 25))); (try simp only [Act.put, sA, sB, sC]); ((with_reducible apply (wpl_bslice (dst := some 25))); (exact run_int2 _ _ _); intro zi wb _ _ _)))
      refine wpList_nil ?_
      unfold onlyN
      refine hK_.out _ _ inferInstance (fun _ => ?_)
      clear hK_ K_
      try simp only [Act.put, sA]; try simp only [sB, sC]
      refine goH (i := 9) (by kernel_rfl) rfl (fun K_ hK_ => ?_)
      go_simp
      refine (refNums_calls (some ⟨zi, 0, none⟩) 2 2 [c, k] _ (HB.rdL (z := zi) (t := 3) (cs := #[.int .i64 c, .int .i64 k]) inferInstance) rfl (show 2 ≤ 1000000000 by decide)).mono ?_
      rintro e w10 ⟨A10, n10, c10, rfl, hF⟩
      have st10 : Step nowhere _ w10 := ⟨hF.out.chg⟩
      have hr10 : HR w10 A10 (bs (encAll [c, k])) := ⟨hF.out.own.rd⟩
      have HN10 : Hid (n10 = (encAll [c, k]).length) := Lib.hid hF.out.len
      have hl10 : (encAll [c, k]).length = n10 := hF.out.len.symm
      have hn10 : n10 ≤ 18 := by
        have := HC.out
        omega
      clear hF
      refine hK_.out _ _ inferInstance (fun _ => ?_)
      clear hK_ K_
      try simp only [Act.put, sA]; try simp only [sB, sC]
      refine goH (i := 10) (by kernel_rfl) rfl (fun K_ hK_ => ?_)
      rw [if_pos (by kernel_rfl)]
      refine wpr_of_list ?_
      (first | ((with_reducible apply (stop_dst (dst := some 25))); (try simp only [Act.put, sA, sB, sC]); ((with_reducible apply (wpl_bslice (dst := some 25))); (exact run_int2 _ _ _); intro zi wb _ _ _)) | ((with_reducible apply wpl_appendB); (exact rfl); (exact rfl); infer_instance; (first | exact inferInstance | exact ⟨Own.nil _ _ _⟩); infer_instance; (first | (with_reducible assumption) | (with_reducible exact H32.len _) | (focus (simp; done)) | omega); (first | (with_reducible assumption) | omega); intro A' c' wa _ _ _ hcap) | ((with_reducible apply wpl_appendH); (exact rfl); (exact rfl); infer_instance; (first | exact inferInstance | exact ⟨Own.nil _ _ _⟩); infer_instance; (first | (with_reducible assumption) | omega); intro A' c' wa _ _ _ hcap) | ((with_reducible apply (wpl_appendR (α := H32))); (exact rfl); (exact rfl); infer_instance; (first | exact inferInstance | exact ⟨Own.nil _ _ _⟩); infer_instance; (exact rfl); (first | (with_reducible assumption) | (with_reducible exact H32.len _) | (focus (simp; done)) | omega); (first | (with_reducible assumption) | omega); (decide); (decide); intro A' c' wa _ _ _ hcap))
      refine wpList_nil ?_
      unfold onlyN
      refine hK_.out _ _ inferInstance (fun _ => ?_)
      clear hK_ K_
      try simp only [Act.put, sA]; try simp only [sB, sC]
      refine' takeH (i := 11) (v := _) rfl (by kernel_rfl) (by kernel_rfl) (by kernel_rfl) (fun _ _ _ h => h) (yields_of (by rfl) (fun w' _ => ?_)) inferInstance ?_
      rotate_left
      · (go_simp; try with_reducible rfl)
      try simp only [Act.put, sA]; try simp only [sB, sC]
      refine' takeH (i := 12) (v := _) rfl (by kernel_rfl) (by kernel_rfl) (by kernel_rfl) (fun _ _ _ h => h) (yields_of (by rfl) (fun w' _ => ?_)) inferInstance ?_
      rotate_left
      · (go_simp; try with_reducible rfl)
      try simp only [Act.put, sA]; try simp only [sB, sC]
      refine wpAnyH_done (by kernel_rfl) ?_ _
    rotate_left 1
    focus
      rw [if_pos (by kernel_rfl)]
      refine wpr_of_list ?_
      (first | ((with_reducible apply (stop_dst (dst := some 25))); (try simp only [Act.put, sA, sB, sC]); ((with_reducible apply (wpl_bslice (dst := some 25))); (exact run_int2 _ _ _); intro zi wb _ _ _)))
      refine wpList_nil ?_
      unfold onlyN
      refine hK_.out _ _ inferInstance (fun _ => ?_)
      clear hK_ K_
      try simp only [Act.put, sA]; try simp only [sB, sC]
      refine goH (i := 3) (by kernel_rfl) rfl (fun K_ hK_ => ?_)
      rw [if_pos (by kernel_rfl)]
      refine wpr_of_list ?_
      (first | ((with_reducible apply (stop_dst (dst := some 25))); (try simp only [Act.put, sA, sB, sC]); ((with_reducible apply (wpl_bslice (dst := some 25))); (exact run_int2 _ _ _); intro zi wb _ _ _)) | ((with_reducible apply wpl_appendB); (exact rfl); (exact rfl); infer_instance; (first | exact inferInstance | exact ⟨Own.nil _ _ _⟩); infer_instance; (first | (with_reducible assumption) | (with_reducible exact H32.len _) | (focus (simp; done)) | omega); (first | (with_reducible assumption) | omega); intro A' c' wa _ _ _ hcap) | ((with_reducible apply wpl_appendH); (exact rfl); (exact rfl); infer_instance; (first | exact inferInstance | exact ⟨Own.nil _ _ _⟩); infer_instance; (first | (with_reducible assumption) | omega); intro A' c' wa _ _ _ hcap) | ((with_reducible apply (wpl_appendR (α := H32))); (exact rfl); (exact rfl); infer_instance; (first | exact inferInstance | exact ⟨Own.nil _ _ _⟩); infer_instance; (exact rfl); (first | (with_reducible assumption) | (with_reducible exact H32.len _) | (focus (simp; done)) | omega); (first | (with_reducible assumption) | omega); (decide); (decide); intro A' c' wa _ _ _ hcap))
      refine wpList_nil ?_
      unfold onlyN
      refine hK_.out _ _ inferInstance (fun _ => ?_)
      clear hK_ K_
      try simp only [Act.put, sA]; try simp only [sB, sC]
      refine goH (i := 9) (by kernel_rfl) rfl (fun K_ hK_ => ?_)
      go_simp
      refine (refNums_calls (some ⟨zi, 0, none⟩) 2 2 [c, k] _ (HB.rdL (z := zi) (t := 3) (cs := #[.int .i64 c, .int .i64 k]) inferInstance) rfl (show 2 ≤ 1000000000 by decide)).mono ?_
      rintro e w10 ⟨A10, n10, c10, rfl, hF⟩
      have st10 : Step nowhere _ w10 := ⟨hF.out.chg⟩
      have hr10 : HR w10 A10 (bs (encAll [c, k])) := ⟨hF.out.own.rd⟩
      have HN10 : Hid (n10 = (encAll [c, k]).length) := Lib.hid hF.out.len
      have hl10 : (encAll [c, k]).length = n10 := hF.out.len.symm
      have hn10 : n10 ≤ 18 := by
        have := HC.out
        omega
      clear hF
      refine hK_.out _ _ inferInstance (fun _ => ?_)
      clear hK_ K_
      try simp only [Act.put, sA]; try simp only [sB, sC]
      refine goH (i := 10) (by kernel_rfl) rfl (fun K_ hK_ => ?_)
      rw [if_pos (by kernel_rfl)]
      refine wpr_of_list ?_
      (first | ((with_reducible apply (stop_dst (dst := some 25))); (try simp only [Act.put, sA, sB, sC]); ((with_reducible apply (wpl_bslice (dst := some 25))); (exact run_int2 _ _ _); intro zi wb _ _ _)) | ((with_reducible apply wpl_appendB); (exact rfl); (exact rfl); infer_instance; (first | exact inferInstance | exact ⟨Own.nil _ _ _⟩); infer_instance; (first | (with_reducible assumption) | (with_reducible exact H32.len _) | (focus (simp; done)) | omega); (first | (with_reducible assumption) | omega); intro A' c' wa _ _ _ hcap) | ((with_reducible apply wpl_appendH); (exact rfl); (exact rfl); infer_instance; (first | exact inferInstance | exact ⟨Own.nil _ _ _⟩); infer_instance; (first | (with_reducible assumption) | omega); intro A' c' wa _ _ _ hcap) | ((with_reducible apply (wpl_appendR (α := H32))); (exact rfl); (exact rfl); infer_instance; (first | exact inferInstance | exact ⟨Own.nil _ _ _⟩); infer_instance; (exact rfl); (first | (with_reducible assumption) | (with_reducible exact H32.len _) | (focus (simp; done)) | omega); (first | (with_reducible assumption) | omega); (decide); (decide); intro A' c' wa _ _ _ hcap))
      refine wpList_nil ?_
      unfold onlyN
      refine hK_.out _ _ inferInstance (fun _ => ?_)
      clear hK_ K_
      try simp only [Act.put, sA]; try simp only [sB, sC]
      refine' takeH (i := 11) (v := _) rfl (by kernel_rfl) (by kernel_rfl) (by kernel_rfl) (fun _ _ _ h => h) (yields_of (by rfl) (fun w' _ => ?_)) inferInstance ?_
      rotate_left
      · (go_simp; try with_reducible rfl)
      try simp only [Act.put, sA]; try simp only [sB, sC]
      refine' takeH (i := 12) (v := _) rfl (by kernel_rfl) (by kernel_rfl) (by kernel_rfl) (fun _ _ _ h => h) (yields_of (by rfl) (fun w' _ => ?_)) inferInstance ?_
      rotate_left
      · (go_simp; try with_reducible rfl)
      try simp only [Act.put, sA]; try simp only [sB, sC]
      refine wpAnyH_done (by kernel_rfl) ?_ _
    rotate_left 1
    all_goals
      go_wp2_with fail
      go_ret2
      have hO : HO wa 5 1 A' (n6 + n7 + n9 + 32 + n10) c' (bs (encAll [5] ++ encRow l ++ encRow m ++ hh.l ++ encAll [c, k])) := inferInstance
      simp only [List.append_assoc] at hO
      refine ⟨stepN, _, _, _, rfl, ?_, hO, inferInstance⟩
      have h1 := HN6.out
      have h2 := HN7.out
      have h3 := HN9.out
      have h4 := HN10.out
      omega
end Go.Proofs.YtmnapacibpnodaaGreat
end
section
open Go Go.RowKit
namespace Go.Proofs.YtmnapacibpnodaaGreat
def flatH (l : List H32) : List UInt8 := l.flatMap (·.l)
def keyB (l : List H32) (need : Int) : List UInt8 := encAll [(l.length : Int)] ++ flatH l ++ encAll [need]
end Go.Proofs.YtmnapacibpnodaaGreat
end
section
open Go Go.RowKit
namespace Go.Proofs.YtmnapacibpnodaaGreat
/-- so many digests taken -/
def hS (s : RS) : Nat → RS
  | 0 => s
  | k + 1 => ((hS s k).raw 32).2
def hN (s : RS) : Nat → List H32
  | 0 => []
  | k + 1 => hN s k ++ [(hS s k).hsh]
theorem hN_len (s : RS) : ∀ k, (hN s k).length = k
  | 0 => rfl
  | k + 1 => by rw [hN, List.length_append, hN_len s k]; rfl
theorem flatH_snoc (l : List H32) (h : H32) : flatH (l ++ [h]) = flatH l ++ h.l := by simp [flatH]
theorem hS_back (s : RS) : ∀ k, (hS s k).e = false → s.e = false ∧ s.b = flatH (hN s k) ++ (hS s k).b
  | 0, h => ⟨h, rfl⟩
  | k + 1, h => by
    obtain ⟨h1, h2⟩ := hsh_back (s := hS s k) h
    obtain ⟨h3, h4⟩ := hS_back s k h1
    refine ⟨h3, ?_⟩
    rw [hN, flatH_snoc, List.append_assoc]
    show s.b = flatH (hN s k) ++ ((hS s k).hsh.l ++ ((hS s k).raw 32).2.b)
    rw [← h2]
    exact h4
theorem hS_mono (s : RS) (j : Nat) : ∀ k, (hS s k).e = false → j ≤ k → (hS s j).e = false
  | 0, h, hj => by
    obtain rfl : j = 0 := by omega
    exact h
  | k + 1, h, hj => by
    by_cases e : j = k + 1
    · subst e; exact h
    · exact hS_mono s j k (hsh_back (s := hS s k) h).1 (by omega)
/-- keys taken: the program's way -/
def kL (s : RS) : List H32 := if 4 < s.num.1 then [] else hN s.num.2 s.num.1
def kM (s : RS) : RS := if 4 < s.num.1 then RS.bad else hS s.num.2 s.num.1
def kD (s : RS) : Nat := (kM s).num.1
def kR (s : RS) : RS := (kM s).num.2
/-- the reference's way -/
def GotQ (s : RS) (l : List H32) (need : Nat) (s' : RS) : Prop := ∃ j, j ≤ 5 ∧ j ≤ s.num.1 ∧ (j = s.num.1 ∨ j = 5 ∨ (hS s.num.2 j).e = true) ∧ l = hN s.num.2 j ∧ need = (hS s.num.2 j).num.1 ∧ s' = (hS s.num.2 j).num.2
theorem GotQ.same {s s' : RS} {l : List H32} {need : Nat} (h : GotQ s l need s') (he : s'.e = false) (hl : l.length ≤ 4) : l = kL s ∧ need = kD s ∧ s' = kR s := by
  obtain ⟨j, h5, hn, hj, rfl, rfl, rfl⟩ := h
  have h1 := (num_back he).1
  rw [hN_len] at hl
  have e : j = s.num.1 := by
    rcases hj with h | h | h
    · exact h
    · omega
    · rw [h1] at h; cases h
  have h4 : ¬ 4 < s.num.1 := by omega
  rw [kL, kD, kR, kM, if_neg h4, if_neg h4, ← e]
  exact ⟨rfl, rfl, rfl⟩
theorem kM_e {s : RS} (h : (kR s).e = false) : (kM s).e = false := (num_back h).1
theorem kM_n {s : RS} (h : (kM s).e = false) : ¬ 4 < s.num.1 := fun h4 => by
  rw [kM, if_pos h4] at h
  cases h
theorem GotQ.prog {s s' : RS} {l : List H32} {need : Nat} (h : GotQ s l need s') (he : (kR s).e = false) : l = kL s ∧ need = kD s ∧ s' = kR s := by
  obtain ⟨j, h5, hn, hj, rfl, rfl, rfl⟩ := h
  have h1 := kM_e he
  have h4 := kM_n h1
  rw [kM, if_neg h4] at h1
  have e : j = s.num.1 := by
    rcases hj with h | h | h
    · exact h
    · omega
    · rw [hS_mono _ _ _ h1 hn] at h; cases h
  rw [kL, kD, kR, kM, if_neg h4, if_neg h4, ← e]
  exact ⟨rfl, rfl, rfl⟩
theorem key_back {s : RS} (he : (kR s).e = false) : s.e = false ∧ s.b = keyB (kL s) (kD s) ++ (kR s).b := by
  have h1 := kM_e he
  have h4 := kM_n h1
  obtain ⟨a1, a2, a3⟩ := num_back (s := kM s) he
  have e1 : kM s = hS s.num.2 s.num.1 := by rw [kM, if_neg h4]
  rw [e1] at h1
  obtain ⟨b1, b2⟩ := hS_back s.num.2 s.num.1 h1
  obtain ⟨c1, c2, c3⟩ := num_back (s := s) b1
  refine ⟨c1, ?_⟩
  have e2 : kL s = hN s.num.2 s.num.1 := by rw [kL, if_neg h4]
  have e3 : encAll [(kD s : Int)] = enc (kD s) := encN a3
  have e4 : encAll [((kL s).length : Int)] = enc s.num.1 := by rw [e2, hN_len]; exact encN c3
  rw [keyB, e4, e3, c2, List.append_assoc, List.append_assoc]
  congr 1
  rw [b2, ← e2, ← e1]
  congr 1
/-- so many keys taken -/
def kAt (s : RS) : Nat → RS
  | 0 => s
  | k + 1 => kR (kAt s k)
def kK (s : RS) : Nat → List (List H32 × Int)
  | 0 => []
  | k + 1 => kK s k ++ [(kL (kAt s k), (kD (kAt s k) : Int))]
def GotN : Nat → RS → List (List H32 × Int) → RS → Prop
  | 0, s, K, s' => K = [] ∧ s' = s
  | m + 1, s, K, s' => ∃ K' t l need, GotN m s K' t ∧ GotQ t l need s' ∧ K = K' ++ [(l, (need : Int))]
theorem GotN.same {s : RS} : ∀ (m : Nat) {K : List (List H32 × Int)} {s' : RS}, GotN m s K s' → s'.e = false → (∀ k ∈ K, k.1.length ≤ 4) → K = kK s m ∧ s' = kAt s m
  | 0, K, s', h, he, hk => h
  | m + 1, K, s', h, he, hk => by
    obtain ⟨K', t, l, need, h1, h2, rfl⟩ := h
    obtain ⟨rfl, rfl, rfl⟩ := h2.same he (hk (l, (need : Int)) (by simp))
    obtain ⟨rfl, rfl⟩ := GotN.same m h1 (key_back he).1 (fun k hk' => hk k (by simp [hk']))
    exact ⟨rfl, rfl⟩
theorem GotN.prog {s : RS} : ∀ (m : Nat) {K : List (List H32 × Int)} {s' : RS}, GotN m s K s' → (kAt s m).e = false → K = kK s m ∧ s' = kAt s m
  | 0, K, s', h, he => h
  | m + 1, K, s', h, he => by
    obtain ⟨K', t, l, need, h1, h2, rfl⟩ := h
    obtain ⟨rfl, rfl⟩ := GotN.prog m h1 (key_back he).1
    obtain ⟨rfl, rfl, rfl⟩ := h2.prog he
    exact ⟨rfl, rfl⟩
def keysB (K : List (List H32 × Int)) : List UInt8 := K.flatMap fun k => keyB k.1 k.2
def rtV (b : List UInt8) : Nat := (kindS 1 b).num.1
def rtX (b : List UInt8) : Nat := ((kindS 1 b).at 1).num.1
def rtS (b : List UInt8) : RS := (kindS 1 b).at 2
def rootB (v e : Int) (K : List (List H32 × Int)) : Bool := verB v && numB e && K.all fun k => isB k.1 k.2
/-- a root's bytes -/
def rootE (v e : Int) (K : List (List H32 × Int)) : List UInt8 := encAll [1] ++ (encAll [v, e] ++ keysB K)
def rtOk (b : List UInt8) : Bool := wholeB (kAt (rtS b) 4) && rootB (rtV b) (rtX b) (kK (rtS b) 4)
end Go.Proofs.YtmnapacibpnodaaGreat
end
