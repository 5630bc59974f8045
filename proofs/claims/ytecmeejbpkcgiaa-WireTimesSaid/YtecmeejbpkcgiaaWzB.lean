/- The reference: a report's bytes. -/
import Derived.Test.YtecmeejbpkcgiaaWzA
import Derived.Test.YtecmeejbpkcgiaaWuC
open Go Go.RowKit
namespace Go.Proofs.Ytecmeejbpkcgiaa
theorem encRow_le (l : List UInt8) (h : l.length ≤ 1000000000) : (encRow l).length ≤ l.length + 9 := by
  have h1 := encAll_len [(l.length : Int)]
  rw [encAll_one] at h1
  have h2 : clampN (l.length : Int) = l.length := by unfold clampN; omega
  rw [h2] at h1
  unfold encRow
  rw [List.length_append]
  simp at h1
  omega
instance (priority := 600) Sub.grewW (w0 w : World) (A A' : Option Addr) (T : Nat → Prop) [g : Grew w A A'] [s : Sub w0 (rowOf A) T] [n : SzLe w0 w] : Sub w0 (rowOf A') T := ⟨fun x hx ⟨ad, e, hk⟩ => by
  rcases g.out with h1 | h1
  · exact s.out x hx ⟨ad, by rw [← h1]; exact e, hk⟩
  · have h2 := n.out
    rw [h1] at e
    injection e with e
    subst e
    have h3 : w.heap.size = x := hk
    omega⟩
set_option maxRecDepth 100000 in
theorem rText_calls (s : ByteArray) (l : List UInt8) (hl : s.data.toList = l) (hx : l.length ≤ 1000000000) (w : World) :
    Calls Try.prog 70 #[.string s] w fun e w' => ∃ A n c, e = .returned (.slice A n c) ∧ Hid (Fresh w w' A n c (encRow l)) := by
  go_enter Try.func70, Try.ntmps70
  go_wp2_with ((with_reducible apply (wpl_strN (l := l))); (exact rfl); (exact hl); (exact Try.underlying9); (exact Try.underlying28); (exact Try.underlying5); intro cs wz _ _)
  refine (refBytes_calls (some ⟨w.heap.size, 0, none⟩) l.length cs l wz (inferInstance : HR wz (some ⟨w.heap.size, 0, none⟩) (bs l)).out rfl hx).mono ?_
  rintro e w5 ⟨A5, n5, c5, rfl, hF⟩
  have HF : Hid (Fresh w w5 A5 n5 c5 (encRow l)) := Lib.hid ⟨hF.out.own, hF.out.len, (stepN (w0 := w) (w := wz)).chg.trans hF.out.chg (fun _ _ h => h), fun ad e => Nat.le_trans (stepN (w0 := w) (w := wz)).chg.size (hF.out.new ad e)⟩
  clear hF
  go_wp2_with fail
  go_ret
  exact ⟨A5, n5, c5, rfl, HF⟩
theorem rep_tail {w : World} {z : Nat} {u n : ByteArray} {h : H32} {c k : Int} {t : TypeId} (hb : HB w z t (repL u n h c k).toArray) : HR w (some ⟨z, 2, none⟩) (bs h.l) := ⟨by
  have h1 := (hb.rdL.drop 2).take 32
  rw [rep_sum] at h1
  exact h1⟩
set_option maxRecDepth 100000 in
set_option maxHeartbeats 3200000 in
theorem rEncodeReport_calls (u n : ByteArray) (hh : H32) (c k : Int) (l m : List UInt8) (hl : u.data.toList = l) (hm : n.data.toList = m) (hu : u.size ≤ 9223372036854775807) (hn : n.size ≤ 9223372036854775807) (w : World) :
    Calls Try.prog 24 #[.agg (repL u n hh c k).toArray] w (EncPost (repB l m c k) (encAll [5] ++ (encRow l ++ (encRow m ++ (hh.l ++ encAll [c, k])))) w) := by
  have hlen := repL_len u n hh c k
  have hone := repL_one u n hh c k
  unfold EncPost
  rcases hb : repB l m c k with _ | _
  · go_enter Try.func24, Try.ntmps24
    go_wp2_with (first | ((with_reducible apply (wpl_box_agg (dst := some 1))); (exact rfl); intro zt wzt _ _ _) | ((with_reducible apply (wpl_box_int (dst := some 1))); (exact rfl); intro zt wzt _ _ _) | ((with_reducible apply (wpl_box_slice (dst := some 1))); (exact rfl); intro zt wzt _ _ _) | ((with_reducible apply (wpl_box_str (dst := some 1))); (exact rfl); intro zt wzt _ _ _) | ((with_reducible apply (wpl_box_bool (dst := some 1))); (exact rfl); intro zt wzt _ _ _) | ((with_reducible apply (wpl_box_ptr (dst := some 1))); (exact rfl); intro zt wzt _ _ _) | ((with_reducible apply wpl_box_agg); (exact rfl); intro z wz _ _ _) | ((with_reducible apply wpl_box_int); (exact rfl); intro z wz _ _ _) | ((with_reducible apply wpl_box_slice); (exact rfl); intro z wz _ _ _) | ((with_reducible apply wpl_box_str); (exact rfl); intro z wz _ _ _) | ((with_reducible apply wpl_box_bool); (exact rfl); intro z wz _ _ _) | ((with_reducible apply wpl_box_ptr); (exact rfl); intro z wz _ _ _) | ((with_reducible apply wpl_loadrow); (exact rfl); (exact inferInstance); (exact inferInstance); (first | (with_reducible assumption) | (with_reducible exact H32.size _) | kernel_rfl)) | ((with_reducible apply wpl_loadcellN); (exact rfl); (exact inferInstance); (exact rfl)))
    refine (rIsReport_calls u n hh c k l m hl hm hu hn _).mono ?_
    rw [hb]
    rintro e w5 ⟨rfl, _⟩
    go_wp2_with (first | ((with_reducible apply wpl_box_agg); (exact rfl); intro z wz _ _ _) | ((with_reducible apply wpl_box_int); (exact rfl); intro z wz _ _ _) | ((with_reducible apply wpl_box_slice); (exact rfl); intro z wz _ _ _) | ((with_reducible apply wpl_box_str); (exact rfl); intro z wz _ _ _) | ((with_reducible apply wpl_box_bool); (exact rfl); intro z wz _ _ _) | ((with_reducible apply wpl_box_ptr); (exact rfl); intro z wz _ _ _) | ((with_reducible apply wpl_loadrow); (exact rfl); (exact inferInstance); (exact inferInstance); (first | (with_reducible assumption) | (with_reducible exact H32.size _) | kernel_rfl)) | ((with_reducible apply wpl_loadcellN); (exact rfl); (exact inferInstance); (exact rfl)))
    go_ret2
    exact ⟨stepN, rfl⟩
  · have hrb := hb
    unfold repB at hrb
    simp only [Bool.and_eq_true] at hrb
    have hl12 : l.length ≤ 12 := nameL_le hrb.1.1.1
    have hm12 : m.length ≤ 12 := nameE_le hrb.1.1.2
    have HL : Hid ((encRow l).length ≤ 21) := Lib.hid (by have := encRow_le l (by omega); omega)
    have HM : Hid ((encRow m).length ≤ 21) := Lib.hid (by have := encRow_le m (by omega); omega)
    have H5 : Hid ((encAll [5]).length ≤ 9) := Lib.hid (encAll_len [5])
    have HC : Hid ((encAll [c, k]).length ≤ 18) := Lib.hid (encAll_len [c, k])
    have hl9 : l.length ≤ 1000000000 := by omega
    have hm9 : m.length ≤ 1000000000 := by omega
    clear hrb hl12 hm12
    go_enter Try.func24, Try.ntmps24
    go_wp2_with (first | ((with_reducible apply (wpl_box_agg (dst := some 1))); (exact rfl); intro zt wzt _ _ _) | ((with_reducible apply (wpl_box_int (dst := some 1))); (exact rfl); intro zt wzt _ _ _) | ((with_reducible apply (wpl_box_slice (dst := some 1))); (exact rfl); intro zt wzt _ _ _) | ((with_reducible apply (wpl_box_str (dst := some 1))); (exact rfl); intro zt wzt _ _ _) | ((with_reducible apply (wpl_box_bool (dst := some 1))); (exact rfl); intro zt wzt _ _ _) | ((with_reducible apply (wpl_box_ptr (dst := some 1))); (exact rfl); intro zt wzt _ _ _) | ((with_reducible apply wpl_box_agg); (exact rfl); intro z wz _ _ _) | ((with_reducible apply wpl_box_int); (exact rfl); intro z wz _ _ _) | ((with_reducible apply wpl_box_slice); (exact rfl); intro z wz _ _ _) | ((with_reducible apply wpl_box_str); (exact rfl); intro z wz _ _ _) | ((with_reducible apply wpl_box_bool); (exact rfl); intro z wz _ _ _) | ((with_reducible apply wpl_box_ptr); (exact rfl); intro z wz _ _ _) | ((with_reducible apply wpl_loadrow); (exact rfl); (exact inferInstance); (exact inferInstance); (first | (with_reducible assumption) | (with_reducible exact H32.size _) | kernel_rfl)) | ((with_reducible apply wpl_loadcellN); (exact rfl); (exact inferInstance); (exact rfl)))
    refine (rIsReport_calls u n hh c k l m hl hm hu hn _).mono ?_
    rw [hb]
    rintro e w5 ⟨rfl, _⟩
    go_wp2_with (first | ((with_reducible apply wpl_box_agg); (exact rfl); intro z wz _ _ _) | ((with_reducible apply wpl_box_int); (exact rfl); intro z wz _ _ _) | ((with_reducible apply wpl_box_slice); (exact rfl); intro z wz _ _ _) | ((with_reducible apply wpl_box_str); (exact rfl); intro z wz _ _ _) | ((with_reducible apply wpl_box_bool); (exact rfl); intro z wz _ _ _) | ((with_reducible apply wpl_box_ptr); (exact rfl); intro z wz _ _ _) | ((with_reducible apply wpl_loadrow); (exact rfl); (exact inferInstance); (exact inferInstance); (first | (with_reducible assumption) | (with_reducible exact H32.size _) | kernel_rfl)) | ((with_reducible apply wpl_loadcellN); (exact rfl); (exact inferInstance); (exact rfl)))
    have n5 : Nw w w5 := inferInstance
    have hz5 : HB w5 zt 47 (repL u n hh c k).toArray := inferInstance
    refine wp_region_N (nowhere) (by kernel_rfl) (fun wd _ _ => ?_)
    refine' takeH (i := 1) (v := _) rfl (by kernel_rfl) (by kernel_rfl) (by kernel_rfl) (fun _ _ _ h => h) (yields_of (by rfl) (fun w' _ => ?_)) inferInstance ?_
    rotate_left
    · (go_simp; try with_reducible rfl)
    try simp only [Act.put, List.setIfInBounds_toArray]; try simp only [List.set_cons_succ, List.set_cons_zero]
    refine' takeH (i := 2) (v := _) rfl (by kernel_rfl) (by kernel_rfl) (by kernel_rfl) (fun _ _ _ h => h) (yields_of (by rfl) (fun w' _ => ?_)) inferInstance ?_
    rotate_left
    · (first | ((with_reducible apply ev_loadcellN); (exact rfl); (exact inferInstance); (exact inferInstance); (exact rep_at0 _ _ _ _ _)))
    try simp only [Act.put, List.setIfInBounds_toArray]; try simp only [List.set_cons_succ, List.set_cons_zero]
    refine' takeH (i := 5) (v := _) rfl (by kernel_rfl) (by kernel_rfl) (by kernel_rfl) (fun _ _ _ h => h) (yields_of (by rfl) (fun w' _ => ?_)) inferInstance ?_
    rotate_left
    · (go_simp; try with_reducible rfl)
    try simp only [Act.put, List.setIfInBounds_toArray]; try simp only [List.set_cons_succ, List.set_cons_zero]
    refine' takeH (i := 6) (v := _) rfl (by kernel_rfl) (by kernel_rfl) (by kernel_rfl) (fun _ _ _ h => h) (yields_of (by rfl) (fun w' _ => ?_)) inferInstance ?_
    rotate_left
    · (first | ((with_reducible apply ev_loadcellN); (exact rfl); (exact inferInstance); (exact inferInstance); (exact rep_at1 _ _ _ _ _)))
    try simp only [Act.put, List.setIfInBounds_toArray]; try simp only [List.set_cons_succ, List.set_cons_zero]
    refine goH (i := 0) (by kernel_rfl) rfl (fun K_ hK_ => ?_)
    go_simp
    refine (refNum_calls 5 _).mono ?_
    rintro e w6 ⟨A6, n6, c6, rfl, hF⟩
    have st6 : Step nowhere _ w6 := ⟨hF.out.chg⟩
    have hA6 : NewA w5 A6 := ⟨fun ad e => Nat.le_trans (stepN (w0 := w5)).chg.size (hF.out.new ad e)⟩
    have hA6d : NewA wd A6 := ⟨fun ad e => Nat.le_trans (stepN (w0 := wd)).chg.size (hF.out.new ad e)⟩
    have ho6 : HO w6 5 1 A6 n6 c6 (bs (encAll [5])) := by
      rw [encAll_one]
      exact fresh_hoW hF.out
    have HN6 : Hid (n6 = (encAll [5]).length) := Lib.hid (by rw [encAll_one]; exact hF.out.len)
    have hn6 : n6 ≤ 9 := by
      have := HN6.out
      have := H5.out
      omega
    clear hF
    refine hK_.out _ _ inferInstance (fun _ => ?_)
    clear hK_ K_
    try simp only [Act.put, List.setIfInBounds_toArray]; try simp only [List.set_cons_succ, List.set_cons_zero]
    refine goH (i := 3) (by kernel_rfl) rfl (fun K_ hK_ => ?_)
    go_simp
    refine (rText_calls u l hl hl9 _).mono ?_
    rintro e w7 ⟨A7, n7, c7, rfl, hF⟩
    have st7 : Step nowhere _ w7 := ⟨hF.out.chg⟩
    have hr7 : HR w7 A7 (bs (encRow l)) := ⟨hF.out.own.rd⟩
    have HN7 : Hid (n7 = (encRow l).length) := Lib.hid hF.out.len
    have hl7 : (encRow l).length = n7 := hF.out.len.symm
    have hn7 : n7 ≤ 21 := by
      have := HL.out
      omega
    clear hF
    refine hK_.out _ _ inferInstance (fun _ => ?_)
    clear hK_ K_
    try simp only [Act.put, List.setIfInBounds_toArray]; try simp only [List.set_cons_succ, List.set_cons_zero]
    refine goH (i := 4) (by kernel_rfl) rfl (fun K_ hK_ => ?_)
    rw [if_pos (by kernel_rfl)]
    refine wpr_of_list ?_
    (first | ((with_reducible apply wpl_appendB); (exact rfl); (exact rfl); (exact inferInstance); (first | exact inferInstance | exact ⟨Own.nil _ _ _⟩); (exact inferInstance); (first | (with_reducible assumption) | (with_reducible exact H32.len _) | (focus (simp; done)) | omega); (first | (with_reducible assumption) | omega); intro A' c' wa _ _ _ hcap) | ((with_reducible apply wpl_appendH); (exact rfl); (exact rfl); (exact inferInstance); (first | exact inferInstance | exact ⟨Own.nil _ _ _⟩); (exact inferInstance); (first | (with_reducible assumption) | omega); intro A' c' wa _ _ _ hcap) | ((with_reducible apply (wpl_appendR (α := H32))); (exact rfl); (exact rfl); (exact inferInstance); (first | exact inferInstance | exact ⟨Own.nil _ _ _⟩); (exact inferInstance); (exact rfl); (first | (with_reducible assumption) | (with_reducible exact H32.len _) | (focus (simp; done)) | omega); (first | (with_reducible assumption) | omega); (decide); (decide); intro A' c' wa _ _ _ hcap))
    refine wpList_nil ?_
    unfold onlyN
    refine hK_.out _ _ inferInstance (fun _ => ?_)
    clear hK_ K_
    try simp only [Act.put, List.setIfInBounds_toArray]; try simp only [List.set_cons_succ, List.set_cons_zero]
    refine goH (i := 7) (by kernel_rfl) rfl (fun K_ hK_ => ?_)
    go_simp
    refine (rText_calls n m hm hm9 _).mono ?_
    rintro e w9 ⟨A9, n9, c9, rfl, hF⟩
    have st9 : Step nowhere _ w9 := ⟨hF.out.chg⟩
    have hr9 : HR w9 A9 (bs (encRow m)) := ⟨hF.out.own.rd⟩
    have HN9 : Hid (n9 = (encRow m).length) := Lib.hid hF.out.len
    have hl9' : (encRow m).length = n9 := hF.out.len.symm
    have hn9 : n9 ≤ 21 := by
      have := HM.out
      omega
    clear hF
    refine hK_.out _ _ inferInstance (fun _ => ?_)
    clear hK_ K_
    try simp only [Act.put, List.setIfInBounds_toArray]; try simp only [List.set_cons_succ, List.set_cons_zero]
    refine goH (i := 8) (by kernel_rfl) rfl (fun K_ hK_ => ?_)
    rw [if_pos (by kernel_rfl)]
    refine wpr_of_list ?_
    (first | ((with_reducible apply wpl_appendB); (exact rfl); (exact rfl); (exact inferInstance); (first | exact inferInstance | exact ⟨Own.nil _ _ _⟩); (exact inferInstance); (first | (with_reducible assumption) | (with_reducible exact H32.len _) | (focus (simp; done)) | omega); (first | (with_reducible assumption) | omega); intro A' c' wa _ _ _ hcap) | ((with_reducible apply wpl_appendH); (exact rfl); (exact rfl); (exact inferInstance); (first | exact inferInstance | exact ⟨Own.nil _ _ _⟩); (exact inferInstance); (first | (with_reducible assumption) | omega); intro A' c' wa _ _ _ hcap) | ((with_reducible apply (wpl_appendR (α := H32))); (exact rfl); (exact rfl); (exact inferInstance); (first | exact inferInstance | exact ⟨Own.nil _ _ _⟩); (exact inferInstance); (exact rfl); (first | (with_reducible assumption) | (with_reducible exact H32.len _) | (focus (simp; done)) | omega); (first | (with_reducible assumption) | omega); (decide); (decide); intro A' c' wa _ _ _ hcap))
    refine wpList_nil ?_
    unfold onlyN
    refine hK_.out _ _ inferInstance (fun _ => ?_)
    clear hK_ K_
    try simp only [Act.put, List.setIfInBounds_toArray]; try simp only [List.set_cons_succ, List.set_cons_zero]
    refine' takeH (i := 9) (v := _) rfl (by kernel_rfl) (by kernel_rfl) (by kernel_rfl) (fun _ _ _ h => h) (yields_of (by rfl) (fun w' _ => ?_)) inferInstance ?_
    rotate_left
    · (go_simp; try with_reducible rfl)
    try simp only [Act.put, List.setIfInBounds_toArray]; try simp only [List.set_cons_succ, List.set_cons_zero]
    refine wpAnyH_done (by kernel_rfl) ?_ _
    go_wp2_with fail
    have hrt : HR wa (some ⟨zt, 2, none⟩) (bs hh.l) := rep_tail (inferInstance : HB wa zt 47 (repL u n hh c k).toArray)
    have hAa : NewA w A' := NewA.monoS (inferInstance : NewA wd A')
    have st3 : Step nowhere w wa := stepN
    refine wp_region_N ((rowOf A')) (by kernel_rfl) (fun wd _ _ => ?_)
    refine' takeH (i := 0) (v := _) rfl (by kernel_rfl) (by kernel_rfl) (by kernel_rfl) (fun _ _ _ h => h) (yields_of (by rfl) (fun w' _ => ?_)) inferInstance ?_
    rotate_left
    · (go_simp; try with_reducible rfl)
    try simp only [Act.put, List.setIfInBounds_toArray]; try simp only [List.set_cons_succ, List.set_cons_zero]
    refine' takeH (i := 1) (v := _) rfl (by kernel_rfl) (by kernel_rfl) (by kernel_rfl) (fun _ _ _ h => h) (yields_of (by rfl) (fun w' _ => ?_)) inferInstance ?_
    rotate_left
    · (go_simp; try with_reducible rfl)
    try simp only [Act.put, List.setIfInBounds_toArray]; try simp only [List.set_cons_succ, List.set_cons_zero]
    refine' takeH (i := 2) (v := _) rfl (by kernel_rfl) (by kernel_rfl) (by kernel_rfl) (fun _ _ _ h => h) (yields_of (by rfl) (fun w' _ => ?_)) inferInstance ?_
    rotate_left
    · (first | ((with_reducible apply (ev_sl_arrK (m := 32) (e := 5))); (exact rfl); (exact Try.underlying43); (kernel_rfl)))
    try simp only [Act.put, List.setIfInBounds_toArray]; try simp only [List.set_cons_succ, List.set_cons_zero]
    refine' takeH (i := 4) (v := _) rfl (by kernel_rfl) (by kernel_rfl) (by kernel_rfl) (fun _ _ _ h => h) (yields_of (by rfl) (fun w' _ => ?_)) inferInstance ?_
    rotate_left
    · (go_simp; try with_reducible rfl)
    try simp only [Act.put, List.setIfInBounds_toArray]; try simp only [List.set_cons_succ, List.set_cons_zero]
    refine' takeH (i := 5) (v := _) rfl (by kernel_rfl) (by kernel_rfl) (by kernel_rfl) (fun _ _ _ h => h) (yields_of (by rfl) (fun w' _ => ?_)) inferInstance ?_
    rotate_left
    · (first | ((with_reducible apply ev_loadcellN); (exact rfl); (exact inferInstance); (exact inferInstance); (exact rep_at34 _ _ _ _ _)))
    try simp only [Act.put, List.setIfInBounds_toArray]; try simp only [List.set_cons_succ, List.set_cons_zero]
    refine' takeH (i := 6) (v := _) rfl (by kernel_rfl) (by kernel_rfl) (by kernel_rfl) (fun _ _ _ h => h) (yields_of (by rfl) (fun w' _ => ?_)) inferInstance ?_
    rotate_left
    · (go_simp; try with_reducible rfl)
    try simp only [Act.put, List.setIfInBounds_toArray]; try simp only [List.set_cons_succ, List.set_cons_zero]
    refine' takeH (i := 7) (v := _) rfl (by kernel_rfl) (by kernel_rfl) (by kernel_rfl) (fun _ _ _ h => h) (yields_of (by rfl) (fun w' _ => ?_)) inferInstance ?_
    rotate_left
    · (first | ((with_reducible apply ev_loadcellN); (exact rfl); (exact inferInstance); (exact inferInstance); (exact rep_at35 _ _ _ _ _)))
    try simp only [Act.put, List.setIfInBounds_toArray]; try simp only [List.set_cons_succ, List.set_cons_zero]
    refine wpAnyH_ready (rs := [3, 8]) (by kernel_rfl) (by simp) (AllReadyH.cons rfl (fun K_ hK_ => ?_) (AllReadyH.cons rfl (fun K_ hK_ => ?_) AllReadyH.nil))
    focus
      rw [if_pos (by kernel_rfl)]
      refine wpr_of_list ?_
      (first | ((with_reducible apply (stop_dst (dst := some 25))); (try simp only [Act.put, List.setIfInBounds_toArray, List.set_cons_succ, List.set_cons_zero]); ((with_reducible apply (wpl_bslice (dst := some 25))); (exact run_int2 _ _ _); intro zi wb _ _ _)) | ((with_reducible apply wpl_appendB); (exact rfl); (exact rfl); (exact inferInstance); (first | exact inferInstance | exact ⟨Own.nil _ _ _⟩); (exact inferInstance); (first | (with_reducible assumption) | (with_reducible exact H32.len _) | (focus (simp; done)) | omega); (first | (with_reducible assumption) | omega); intro A' c' wa _ _ _ hcap) | ((with_reducible apply wpl_appendH); (exact rfl); (exact rfl); (exact inferInstance); (first | exact inferInstance | exact ⟨Own.nil _ _ _⟩); (exact inferInstance); (first | (with_reducible assumption) | omega); intro A' c' wa _ _ _ hcap) | ((with_reducible apply (wpl_appendR (α := H32))); (exact rfl); (exact rfl); (exact inferInstance); (first | exact inferInstance | exact ⟨Own.nil _ _ _⟩); (exact inferInstance); (exact rfl); (first | (with_reducible assumption) | (with_reducible exact H32.len _) | (focus (simp; done)) | omega); (first | (with_reducible assumption) | omega); (decide); (decide); intro A' c' wa _ _ _ hcap))
      refine wpList_nil ?_
      unfold onlyN
      refine hK_.out _ _ inferInstance (fun _ => ?_)
      clear hK_ K_
      try simp only [Act.put, List.setIfInBounds_toArray]; try simp only [List.set_cons_succ, List.set_cons_zero]
      refine goH (i := 8) (by kernel_rfl) rfl (fun K_ hK_ => ?_)
      rw [if_pos (by kernel_rfl)]
      refine wpr_of_list ?_
      (first | ((with_reducible apply (stop_dst (dst := some 25))); (try simp only [Act.put, List.setIfInBounds_toArray, List.set_cons_succ, List.set_cons_zero]); ((with_reducible apply (wpl_bslice (dst := some 25))); (exact run_int2 _ _ _); intro zi wb _ _ _)))
      refine wpList_nil ?_
      unfold onlyN
      refine hK_.out _ _ inferInstance (fun _ => ?_)
      clear hK_ K_
      try simp only [Act.put, List.setIfInBounds_toArray]; try simp only [List.set_cons_succ, List.set_cons_zero]
      refine goH (i := 9) (by kernel_rfl) rfl (fun K_ hK_ => ?_)
      go_simp
      refine (refNums_calls (some ⟨zi, 0, none⟩) 2 2 [c, k] _ (HB.rdL (z := zi) (t := 3) (cs := #[.int .i64 c, .int .i64 k]) inferInstance) rfl (show 2 ≤ 1000000000 by decide)).mono ?_
      rintro e w10 ⟨A10, n10, c10, rfl, hF⟩
      have st10 : Step nowhere _ w10 := ⟨hF.out.chg⟩
      have hr10 : HR w10 A10 (bs (encAll [c, k])) := ⟨hF.out.own.rd⟩
      have HN10 : Hid (n10 = (encAll [c, k]).length) := Lib.hid hF.out.len
      have hl10 : (encAll [c, k]).length = n10 := hF.out.len.symm
      have hn10 : n10 ≤ 18 := by
        have := HC.out
        omega
      clear hF
      refine hK_.out _ _ inferInstance (fun _ => ?_)
      clear hK_ K_
      try simp only [Act.put, List.setIfInBounds_toArray]; try simp only [List.set_cons_succ, List.set_cons_zero]
      refine goH (i := 10) (by kernel_rfl) rfl (fun K_ hK_ => ?_)
      rw [if_pos (by kernel_rfl)]
      refine wpr_of_list ?_
      (first | ((with_reducible apply (stop_dst (dst := some 25))); (try simp only [Act.put, List.setIfInBounds_toArray, List.set_cons_succ, List.set_cons_zero]); ((with_reducible apply (wpl_bslice (dst := some 25))); (exact run_int2 _ _ _); intro zi wb _ _ _)) | ((with_reducible apply wpl_appendB); (exact rfl); (exact rfl); (exact inferInstance); (first | exact inferInstance | exact ⟨Own.nil _ _ _⟩); (exact inferInstance); (first | (with_reducible assumption) | (with_reducible exact H32.len _) | (focus (simp; done)) | omega); (first | (with_reducible assumption) | omega); intro A' c' wa _ _ _ hcap) | ((with_reducible apply wpl_appendH); (exact rfl); (exact rfl); (exact inferInstance); (first | exact inferInstance | exact ⟨Own.nil _ _ _⟩); (exact inferInstance); (first | (with_reducible assumption) | omega); intro A' c' wa _ _ _ hcap) | ((with_reducible apply (wpl_appendR (α := H32))); (exact rfl); (exact rfl); (exact inferInstance); (first | exact inferInstance | exact ⟨Own.nil _ _ _⟩); (exact inferInstance); (exact rfl); (first | (with_reducible assumption) | (with_reducible exact H32.len _) | (focus (simp; done)) | omega); (first | (with_reducible assumption) | omega); (decide); (decide); intro A' c' wa _ _ _ hcap))
      refine wpList_nil ?_
      unfold onlyN
      refine hK_.out _ _ inferInstance (fun _ => ?_)
      clear hK_ K_
      try simp only [Act.put, List.setIfInBounds_toArray]; try simp only [List.set_cons_succ, List.set_cons_zero]
      refine' takeH (i := 11) (v := _) rfl (by kernel_rfl) (by kernel_rfl) (by kernel_rfl) (fun _ _ _ h => h) (yields_of (by rfl) (fun w' _ => ?_)) inferInstance ?_
      rotate_left
      · (go_simp; try with_reducible rfl)
      try simp only [Act.put, List.setIfInBounds_toArray]; try simp only [List.set_cons_succ, List.set_cons_zero]
      refine' takeH (i := 12) (v := _) rfl (by kernel_rfl) (by kernel_rfl) (by kernel_rfl) (fun _ _ _ h => h) (yields_of (by rfl) (fun w' _ => ?_)) inferInstance ?_
      rotate_left
      · (go_simp; try with_reducible rfl)
      try simp only [Act.put, List.setIfInBounds_toArray]; try simp only [List.set_cons_succ, List.set_cons_zero]
      refine wpAnyH_done (by kernel_rfl) ?_ _
    rotate_left 1
    focus
      rw [if_pos (by kernel_rfl)]
      refine wpr_of_list ?_
      (first | ((with_reducible apply (stop_dst (dst := some 25))); (try simp only [Act.put, List.setIfInBounds_toArray, List.set_cons_succ, List.set_cons_zero]); ((with_reducible apply (wpl_bslice (dst := some 25))); (exact run_int2 _ _ _); intro zi wb _ _ _)))
      refine wpList_nil ?_
      unfold onlyN
      refine hK_.out _ _ inferInstance (fun _ => ?_)
      clear hK_ K_
      try simp only [Act.put, List.setIfInBounds_toArray]; try simp only [List.set_cons_succ, List.set_cons_zero]
      refine goH (i := 3) (by kernel_rfl) rfl (fun K_ hK_ => ?_)
      rw [if_pos (by kernel_rfl)]
      refine wpr_of_list ?_
      (first | ((with_reducible apply (stop_dst (dst := some 25))); (try simp only [Act.put, List.setIfInBounds_toArray, List.set_cons_succ, List.set_cons_zero]); ((with_reducible apply (wpl_bslice (dst := some 25))); (exact run_int2 _ _ _); intro zi wb _ _ _)) | ((with_reducible apply wpl_appendB); (exact rfl); (exact rfl); (exact inferInstance); (first | exact inferInstance | exact ⟨Own.nil _ _ _⟩); (exact inferInstance); (first | (with_reducible assumption) | (with_reducible exact H32.len _) | (focus (simp; done)) | omega); (first | (with_reducible assumption) | omega); intro A' c' wa _ _ _ hcap) | ((with_reducible apply wpl_appendH); (exact rfl); (exact rfl); (exact inferInstance); (first | exact inferInstance | exact ⟨Own.nil _ _ _⟩); (exact inferInstance); (first | (with_reducible assumption) | omega); intro A' c' wa _ _ _ hcap) | ((with_reducible apply (wpl_appendR (α := H32))); (exact rfl); (exact rfl); (exact inferInstance); (first | exact inferInstance | exact ⟨Own.nil _ _ _⟩); (exact inferInstance); (exact rfl); (first | (with_reducible assumption) | (with_reducible exact H32.len _) | (focus (simp; done)) | omega); (first | (with_reducible assumption) | omega); (decide); (decide); intro A' c' wa _ _ _ hcap))
      refine wpList_nil ?_
      unfold onlyN
      refine hK_.out _ _ inferInstance (fun _ => ?_)
      clear hK_ K_
      try simp only [Act.put, List.setIfInBounds_toArray]; try simp only [List.set_cons_succ, List.set_cons_zero]
      refine goH (i := 9) (by kernel_rfl) rfl (fun K_ hK_ => ?_)
      go_simp
      refine (refNums_calls (some ⟨zi, 0, none⟩) 2 2 [c, k] _ (HB.rdL (z := zi) (t := 3) (cs := #[.int .i64 c, .int .i64 k]) inferInstance) rfl (show 2 ≤ 1000000000 by decide)).mono ?_
      rintro e w10 ⟨A10, n10, c10, rfl, hF⟩
      have st10 : Step nowhere _ w10 := ⟨hF.out.chg⟩
      have hr10 : HR w10 A10 (bs (encAll [c, k])) := ⟨hF.out.own.rd⟩
      have HN10 : Hid (n10 = (encAll [c, k]).length) := Lib.hid hF.out.len
      have hl10 : (encAll [c, k]).length = n10 := hF.out.len.symm
      have hn10 : n10 ≤ 18 := by
        have := HC.out
        omega
      clear hF
      refine hK_.out _ _ inferInstance (fun _ => ?_)
      clear hK_ K_
      try simp only [Act.put, List.setIfInBounds_toArray]; try simp only [List.set_cons_succ, List.set_cons_zero]
      refine goH (i := 10) (by kernel_rfl) rfl (fun K_ hK_ => ?_)
      rw [if_pos (by kernel_rfl)]
      refine wpr_of_list ?_
      (first | ((with_reducible apply (stop_dst (dst := some 25))); (try simp only [Act.put, List.setIfInBounds_toArray, List.set_cons_succ, List.set_cons_zero]); ((with_reducible apply (wpl_bslice (dst := some 25))); (exact run_int2 _ _ _); intro zi wb _ _ _)) | ((with_reducible apply wpl_appendB); (exact rfl); (exact rfl); (exact inferInstance); (first | exact inferInstance | exact ⟨Own.nil _ _ _⟩); (exact inferInstance); (first | (with_reducible assumption) | (with_reducible exact H32.len _) | (focus (simp; done)) | omega); (first | (with_reducible assumption) | omega); intro A' c' wa _ _ _ hcap) | ((with_reducible apply wpl_appendH); (exact rfl); (exact rfl); (exact inferInstance); (first | exact inferInstance | exact ⟨Own.nil _ _ _⟩); (exact inferInstance); (first | (with_reducible assumption) | omega); intro A' c' wa _ _ _ hcap) | ((with_reducible apply (wpl_appendR (α := H32))); (exact rfl); (exact rfl); (exact inferInstance); (first | exact inferInstance | exact ⟨Own.nil _ _ _⟩); (exact inferInstance); (exact rfl); (first | (with_reducible assumption) | (with_reducible exact H32.len _) | (focus (simp; done)) | omega); (first | (with_reducible assumption) | omega); (decide); (decide); intro A' c' wa _ _ _ hcap))
      refine wpList_nil ?_
      unfold onlyN
      refine hK_.out _ _ inferInstance (fun _ => ?_)
      clear hK_ K_
      try simp only [Act.put, List.setIfInBounds_toArray]; try simp only [List.set_cons_succ, List.set_cons_zero]
      refine' takeH (i := 11) (v := _) rfl (by kernel_rfl) (by kernel_rfl) (by kernel_rfl) (fun _ _ _ h => h) (yields_of (by rfl) (fun w' _ => ?_)) inferInstance ?_
      rotate_left
      · (go_simp; try with_reducible rfl)
      try simp only [Act.put, List.setIfInBounds_toArray]; try simp only [List.set_cons_succ, List.set_cons_zero]
      refine' takeH (i := 12) (v := _) rfl (by kernel_rfl) (by kernel_rfl) (by kernel_rfl) (fun _ _ _ h => h) (yields_of (by rfl) (fun w' _ => ?_)) inferInstance ?_
      rotate_left
      · (go_simp; try with_reducible rfl)
      try simp only [Act.put, List.setIfInBounds_toArray]; try simp only [List.set_cons_succ, List.set_cons_zero]
      refine wpAnyH_done (by kernel_rfl) ?_ _
    rotate_left 1
    all_goals
      go_wp2_with fail
      go_ret2
      have hO : HO wa 5 1 A' (n6 + n7 + n9 + 32 + n10) c' (bs (encAll [5] ++ encRow l ++ encRow m ++ hh.l ++ encAll [c, k])) := inferInstance
      simp only [List.append_assoc] at hO
      refine ⟨stepN, _, _, _, rfl, ?_, hO, inferInstance⟩
      have h1 := HN6.out
      have h2 := HN7.out
      have h3 := HN9.out
      have h4 := HN10.out
      omega
end Go.Proofs.Ytecmeejbpkcgiaa
