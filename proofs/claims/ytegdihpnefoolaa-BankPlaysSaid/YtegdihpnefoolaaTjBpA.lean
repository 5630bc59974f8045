/- BpA -/
import Derived.Test.YtegdihpnefoolaaTjBkL
import Derived.Test.YtegdihpnefoolaaTjOcRfB
open Go Go.RowKit
namespace Go.Proofs.Ytegdihpnefoolaa
instance (priority := 600) Sub.grewB (w0 w : World) (A A' : Option Addr) (T : Nat → Prop) [g : Grew w A A'] [s : Sub w0 (rowOf A) T] [n : SzLe w0 w] : Sub w0 (rowOf A') T := ⟨fun x hx ⟨ad, e, hk⟩ => by
  rcases g.out with h1 | h1
  · exact s.out x hx ⟨ad, by rw [← h1]; exact e, hk⟩
  · have h2 := n.out
    rw [h1] at e
    injection e with e
    subst e
    have h3 : w.heap.size = x := hk
    omega⟩
theorem fresh_hoB {w0 w : World} {A : Option Addr} {n c : Nat} {xs : List UInt8} (h : Fresh w0 w A n c xs) : HO w 5 1 A n c (bs xs) := ⟨h.own⟩
set_option maxRecDepth 100000 in
set_option maxHeartbeats 3200000 in
theorem rbRecord_calls (s : BSt) {M : Option Addr} {m d : Nat} {w : World} [hr : HR w M (bs s.mind)] (hl : s.mind.length = m) (hm : m ≤ 1000000) (hnm : s.name.length ≤ 1000000) :
    Calls Try.prog 60 #[.agg (bkL s.bank s.size s.sum s.cnt (strL s.name) M m d).toArray] w fun e w' => ∃ A' n' c', e = .returned (.slice A' n' c') ∧ s.enc.length = n' ∧ HR w' A' (bs s.enc) ∧ NewA w A' ∧ Step nowhere w w' := by
  obtain ⟨sb, sz, S, sc, nm, md⟩ := s
  have hl : md.length = m := hl
  have hnm : nm.length ≤ 1000000 := hnm
  have hr : HR w M (bs md) := hr
  have hfin : BSt.enc ⟨sb, sz, S, sc, nm, md⟩ = encAll [(sb : Int), (sz : Int)] ++ S.l ++ encAll [(sc : Int)] ++ encRow nm ++ encRow md := by simp [BSt.enc]
  rw [hfin]
  have ha0 := bkL_len sb sz S sc (strL nm) M m d
  have ha1 := bkL_one sb sz S sc (strL nm) M m d
  have HLL := Lib.hid hl
  have HRR := Lib.hid hr.out
  have HE1 : Hid ((encAll [(sb : Int), (sz : Int)]).length ≤ 18) := Lib.hid (encAll_len [(sb : Int), (sz : Int)])
  have HE2 : Hid ((encAll [(sc : Int)]).length ≤ 9) := Lib.hid (encAll_len [(sc : Int)])
  have HE3 : Hid ((encRow nm).length ≤ 1000009) := Lib.hid (by have := encRow_len nm (by omega); omega)
  have HE4 : Hid ((encRow md).length ≤ 1000009) := Lib.hid (by have := encRow_len md (by omega); omega)
  have hdl : (strL nm).data.toList = nm := by simp [strL]
  clear hl hfin
  show Calls _ _ #[.agg (bkL sb sz S sc (strL nm) M m d).toArray] _ _
  go_enter Try.func60, Try.ntmps60
  go_wp2_with (first | ((with_reducible apply (wpl_box_agg (dst := some 1))); (exact rfl); intro zs wzs _ _ _) | ((with_reducible apply (wpl_box_int (dst := some 1))); (exact rfl); intro zs wzs _ _ _) | ((with_reducible apply (wpl_box_slice (dst := some 1))); (exact rfl); intro zs wzs _ _ _) | ((with_reducible apply (wpl_box_str (dst := some 1))); (exact rfl); intro zs wzs _ _ _) | ((with_reducible apply (wpl_box_bool (dst := some 1))); (exact rfl); intro zs wzs _ _ _) | ((with_reducible apply (wpl_box_ptr (dst := some 1))); (exact rfl); intro zs wzs _ _ _) | ((with_reducible apply wpl_box_agg); (exact rfl); intro z wz _ _ _) | ((with_reducible apply wpl_box_int); (exact rfl); intro z wz _ _ _) | ((with_reducible apply wpl_box_slice); (exact rfl); intro z wz _ _ _) | ((with_reducible apply wpl_box_str); (exact rfl); intro z wz _ _ _) | ((with_reducible apply wpl_box_bool); (exact rfl); intro z wz _ _ _) | ((with_reducible apply wpl_box_ptr); (exact rfl); intro z wz _ _ _) | ((with_reducible apply wpl_loadrow); (exact rfl); infer_instance; infer_instance; (first | (with_reducible assumption) | (with_reducible exact H32.size _) | kernel_rfl)) | ((with_reducible apply wpl_loadcellN); (exact rfl); infer_instance; (exact rfl)))
  have hz1 : HB wzs zs 57 (bkL sb sz S sc (strL nm) M m d).toArray := inferInstance
  have hrs : HR wzs (some ⟨zs, 2, none⟩) (bs S.l) := ⟨bk_sumrd hz1⟩
  have kb2 := run_int2K (sb : Int) (sz : Int)
  have hr1 : HR wzs M (bs md) := inferInstance
  have n1 : Nw w wzs := inferInstance
  refine wp_region_N (nowhere) (by kernel_rfl) (fun wd _ _ => ?_)
  refine' takeH (i := 0) (v := _) rfl (by kernel_rfl) (by kernel_rfl) (by kernel_rfl) (fun _ _ _ h => h) (yields_of (by rfl) (fun w' _ => ?_)) inferInstance ?_
  rotate_left
  · (go_simp; try with_reducible rfl)
  try simp only [Act.put, sA]; try simp only [sB, sC]
  refine' takeH (i := 1) (v := _) rfl (by kernel_rfl) (by kernel_rfl) (by kernel_rfl) (fun _ _ _ h => h) (yields_of (by rfl) (fun w' _ => ?_)) inferInstance ?_
  rotate_left
  · (first | ((with_reducible apply (ev_loadcell (k := 0))); (exact rfl); infer_instance; infer_instance; (exact bk_get0 _ _ _ _ _ _ _ _)))
  try simp only [Act.put, sA]; try simp only [sB, sC]
  refine' takeH (i := 2) (v := _) rfl (by kernel_rfl) (by kernel_rfl) (by kernel_rfl) (fun _ _ _ h => h) (yields_of (by rfl) (fun w' _ => ?_)) inferInstance ?_
  rotate_left
  · (go_simp; try with_reducible rfl)
  try simp only [Act.put, sA]; try simp only [sB, sC]
  refine' takeH (i := 3) (v := _) rfl (by kernel_rfl) (by kernel_rfl) (by kernel_rfl) (fun _ _ _ h => h) (yields_of (by rfl) (fun w' _ => ?_)) inferInstance ?_
  rotate_left
  · (first | ((with_reducible apply (ev_loadcell (k := 1))); (exact rfl); infer_instance; infer_instance; (exact bk_get1 _ _ _ _ _ _ _ _)))
  try simp only [Act.put, sA]; try simp only [sB, sC]
  refine' takeH (i := 6) (v := _) rfl (by kernel_rfl) (by kernel_rfl) (by kernel_rfl) (fun _ _ _ h => h) (yields_of (by rfl) (fun w' _ => ?_)) inferInstance ?_
  rotate_left
  · (go_simp; try with_reducible rfl)
  try simp only [Act.put, sA]; try simp only [sB, sC]
  refine' takeH (i := 7) (v := _) rfl (by kernel_rfl) (by kernel_rfl) (by kernel_rfl) (fun _ _ _ h => h) (yields_of (by rfl) (fun w' _ => ?_)) inferInstance ?_
  rotate_left
  · (first | ((with_reducible apply (ev_sl_arrB (m := 32) (e := 5))); (exact rfl); (exact Try.underlying52); (kernel_rfl)))
  try simp only [Act.put, sA]; try simp only [sB, sC]
  refine goH (i := 4) (by kernel_rfl) rfl (fun K_ hK_ => ?_)
  rw [if_pos (by kernel_rfl)]
  refine wpr_of_list ?_
  (first | ((with_reducible apply (stop_dst (dst := some 8))); (try simp only [Act.put, sA, sB, sC]); ((with_reducible apply (wpl_bslice (dst := some 8))); (exact kb2 _); intro zi wb _ _ _)))
  refine wpList_nil ?_
  unfold onlyN
  refine hK_.out _ _ inferInstance (fun _ => ?_)
  clear hK_ K_
  try simp only [Act.put, sA]; try simp only [sB, sC]
  refine goH (i := 5) (by kernel_rfl) rfl (fun K_ hK_ => ?_)
  go_simp
  refine (refNums_calls (some ⟨zi, 0, none⟩) 2 2 [(sb : Int), (sz : Int)] _ (HB.rdL (z := zi) (t := 3) (cs := #[.int .i64 sb, .int .i64 sz]) inferInstance) rfl (show 2 ≤ 1000000000 by decide)).mono ?_
  rintro e w6 ⟨A6, n6, c6, rfl, hF⟩
  have st6 : Step nowhere _ w6 := ⟨hF.out.chg⟩
  have hA6 : NewA wzs A6 := ⟨fun ad e => Nat.le_trans (stepN (w0 := wzs)).chg.size (hF.out.new ad e)⟩
  have hA6d : NewA wd A6 := ⟨fun ad e => Nat.le_trans (stepN (w0 := wd)).chg.size (hF.out.new ad e)⟩
  have ho6 : HO w6 5 1 A6 n6 c6 (bs (encAll [(sb : Int), (sz : Int)])) := fresh_hoB hF.out
  have HN6 : Hid (n6 = (encAll [(sb : Int), (sz : Int)]).length) := Lib.hid hF.out.len
  have hn6 : n6 ≤ 18 := by
    have := HN6.out
    have := HE1.out
    omega
  clear hF
  refine hK_.out _ _ inferInstance (fun _ => ?_)
  clear hK_ K_
  try simp only [Act.put, sA]; try simp only [sB, sC]
  refine goH (i := 8) (by kernel_rfl) rfl (fun K_ hK_ => ?_)
  rw [if_pos (by kernel_rfl)]
  refine wpr_of_list ?_
  (first | ((with_reducible apply (stop_dst (dst := some 8))); (try simp only [Act.put, sA, sB, sC]); ((with_reducible apply (wpl_bslice (dst := some 8))); (exact kb2 _); intro zi wb _ _ _)) | ((with_reducible apply wpl_appendB); (exact rfl); (exact rfl); infer_instance; (first | exact inferInstance | exact ⟨Own.nil _ _ _⟩); infer_instance; (first | (with_reducible assumption) | (with_reducible exact H32.len _) | (focus (simp; done)) | omega); (first | (with_reducible assumption) | omega); intro A' c' wa _ _ _ hcap) | ((with_reducible apply wpl_appendH); (exact rfl); (exact rfl); infer_instance; (first | exact inferInstance | exact ⟨Own.nil _ _ _⟩); infer_instance; (first | (with_reducible assumption) | omega); intro A' c' wa _ _ _ hcap) | ((with_reducible apply (wpl_appendR (α := H32))); (exact rfl); (exact rfl); infer_instance; (first | exact inferInstance | exact ⟨Own.nil _ _ _⟩); infer_instance; (exact rfl); (first | (with_reducible assumption) | (with_reducible exact H32.len _) | (focus (simp; done)) | omega); (first | (with_reducible assumption) | omega); (decide); (decide); intro A' c' wa _ _ _ hcap))
  refine wpList_nil ?_
  unfold onlyN
  refine hK_.out _ _ inferInstance (fun _ => ?_)
  clear hK_ K_
  try simp only [Act.put, sA]; try simp only [sB, sC]
  refine' takeH (i := 9) (v := _) rfl (by kernel_rfl) (by kernel_rfl) (by kernel_rfl) (fun _ _ _ h => h) (yields_of (by rfl) (fun w' _ => ?_)) inferInstance ?_
  rotate_left
  · (go_simp; try with_reducible rfl)
  try simp only [Act.put, sA]; try simp only [sB, sC]
  refine wpAnyH_done (by kernel_rfl) ?_ _
  go_wp2_with fail
  have hAa : NewA wzs A' := NewA.monoS (inferInstance : NewA wd A')
  have hz2 : HB wa zs 57 (bkL sb sz S sc (strL nm) M m d).toArray := inferInstance
  have hr2 : HR wa M (bs md) := inferInstance
  have st2 : Step nowhere wzs wa := stepN
  have n2 : Nw w wa := inferInstance
  have hO2 : HO wa 5 1 A' (n6 + 32) c' (bs (encAll [(sb : Int), (sz : Int)] ++ S.l)) := inferInstance
  obtain ⟨n2', hn2'⟩ : ∃ x, x = n6 + 32 := ⟨_, rfl⟩
  have hn50 : n2' ≤ 50 := by omega
  have HN2 : Hid (n2' = (encAll [(sb : Int), (sz : Int)]).length + 32) := Lib.hid (by have := HN6.out; omega)
  rw [← hn2'] at hO2 ⊢
  clear hn2'
  have aA : Above wzs (rowOf A') := by
    have := NewA.mono (w0 := wzs) hAa
    infer_instance
  obtain ⟨B0, hB0⟩ : ∃ B0, B0 = A' := ⟨_, rfl⟩
  rw [← hB0] at hO2 hAa aA ⊢
  have hBlt : ∀ ad, B0 = some ad → ad.block < wa.heap.size := fun ad e => hO2.out.lt e
  have HBLT := Lib.hid hBlt
  have hzsl := hz1.out.lt
  have ozs : OffB (rowOf B0) zs := ⟨fun ⟨ad, e, h⟩ => by
    have h1 := hAa.out ad e
    have h2 : ad.block = zs := h
    omega⟩
  have oMd : OffR (rowOf B0) M (bs md) := ⟨fun hne ad e ⟨ad', e', h⟩ => by
    have h1 := hAa.out ad' e'
    have h2 := rd_lt HRR.out hne e
    have h3 := n1.out.size
    have h4 : ad'.block = ad.block := h
    omega⟩
  clear hB0 hBlt
  refine wp_region_N ((rowOf B0)) (by kernel_rfl) (fun wd _ _ => ?_)
  refine' takeH (i := 0) (v := _) rfl (by kernel_rfl) (by kernel_rfl) (by kernel_rfl) (fun _ _ _ h => h) (yields_of (by rfl) (fun w' _ => ?_)) inferInstance ?_
  rotate_left
  · (go_simp; try with_reducible rfl)
  try simp only [Act.put, sA]; try simp only [sB, sC]
  refine' takeH (i := 1) (v := _) rfl (by kernel_rfl) (by kernel_rfl) (by kernel_rfl) (fun _ _ _ h => h) (yields_of (by rfl) (fun w' _ => ?_)) inferInstance ?_
  rotate_left
  · (go_simp; try with_reducible rfl)
  try simp only [Act.put, sA]; try simp only [sB, sC]
  refine' takeH (i := 2) (v := _) rfl (by kernel_rfl) (by kernel_rfl) (by kernel_rfl) (fun _ _ _ h => h) (yields_of (by rfl) (fun w' _ => ?_)) inferInstance ?_
  rotate_left
  · (first | ((with_reducible apply (ev_loadcell (k := 34))); (exact rfl); infer_instance; infer_instance; (exact bk_get34 _ _ _ _ _ _ _ _)))
  try simp only [Act.put, sA]; try simp only [sB, sC]
  refine' takeH (i := 5) (v := _) rfl (by kernel_rfl) (by kernel_rfl) (by kernel_rfl) (fun _ _ _ h => h) (yields_of (by rfl) (fun w' _ => ?_)) inferInstance ?_
  rotate_left
  · (go_simp; try with_reducible rfl)
  try simp only [Act.put, sA]; try simp only [sB, sC]
  refine' takeH (i := 6) (v := _) rfl (by kernel_rfl) (by kernel_rfl) (by kernel_rfl) (fun _ _ _ h => h) (yields_of (by rfl) (fun w' _ => ?_)) inferInstance ?_
  rotate_left
  · (first | ((with_reducible apply (ev_loadcell (k := 35))); (exact rfl); infer_instance; infer_instance; (exact bk_get35 _ _ _ _ _ _ _ _)))
  try simp only [Act.put, sA]; try simp only [sB, sC]
  refine wpAnyH_ready (rs := [3, 7]) (by kernel_rfl) (by simp) (AllReadyH.cons rfl (fun K_ hK_ => ?_) (AllReadyH.cons rfl (fun K_ hK_ => ?_) AllReadyH.nil))
  focus
    go_simp
    refine (refNum_calls (sc : Int) _).mono ?_
    rintro e w7 ⟨A7, n7, c7, rfl, hF⟩
    have st7 : Step nowhere _ w7 := ⟨hF.out.chg⟩
    have hr7 : HR w7 A7 (bs (encAll [(sc : Int)])) := ⟨by rw [encAll_one]; exact hF.out.own.rd⟩
    have HN7 : Hid (n7 = (encAll [(sc : Int)]).length) := Lib.hid (by rw [encAll_one]; exact hF.out.len)
    have hl7 : (encAll [(sc : Int)]).length = n7 := HN7.out.symm
    have hn7 : n7 ≤ 9 := by
      have := HN7.out
      have := HE2.out
      omega
    clear hF
    refine hK_.out _ _ inferInstance (fun _ => ?_)
    clear hK_ K_
    try simp only [Act.put, sA]; try simp only [sB, sC]
    refine wpAnyH_ready (rs := [4, 7]) (by kernel_rfl) (by simp) (AllReadyH.cons rfl (fun K_ hK_ => ?_) (AllReadyH.cons rfl (fun K_ hK_ => ?_) AllReadyH.nil))
    focus
      rw [if_pos (by kernel_rfl)]
      refine wpr_of_list ?_
      (first | ((with_reducible apply wpl_strK); (exact rfl); (exact hdl); (exact Try.underlying9); (exact Try.underlying22); (exact Try.underlying5); intro zn cn wn hzn1 hzn2 _ hrn; (try have ozn : OffR (rowOf B0) (some (⟨zn, 0, none⟩ : Addr)) (bs nm) := ⟨fun _ ad e ⟨ad', e', h'⟩ => by injection e with e; subst e; have h1 := HBLT.out ad' e'; have h2 : wa.heap.size ≤ zn := (by refine Nat.le_trans ?_ hzn1; exact (inferInstance : SzLe wa _).out); have h3 : ad'.block = zn := h'; omega⟩)) | ((with_reducible apply wpl_appendB); (exact rfl); (exact rfl); infer_instance; (first | exact inferInstance | exact ⟨Own.nil _ _ _⟩); infer_instance; (first | (with_reducible assumption) | (with_reducible exact H32.len _) | (focus (simp; done)) | omega); (first | (with_reducible assumption) | omega); intro A' c' wa _ _ _ hcap) | ((with_reducible apply wpl_appendH); (exact rfl); (exact rfl); infer_instance; (first | exact inferInstance | exact ⟨Own.nil _ _ _⟩); infer_instance; (first | (with_reducible assumption) | omega); intro A' c' wa _ _ _ hcap) | ((with_reducible apply (wpl_appendR (α := H32))); (exact rfl); (exact rfl); infer_instance; (first | exact inferInstance | exact ⟨Own.nil _ _ _⟩); infer_instance; (exact rfl); (first | (with_reducible assumption) | (with_reducible exact H32.len _) | (focus (simp; done)) | omega); (first | (with_reducible assumption) | omega); (decide); (decide); intro A' c' wa _ _ _ hcap))
      refine wpList_nil ?_
      unfold onlyN
      refine hK_.out _ _ inferInstance (fun _ => ?_)
      clear hK_ K_
      try simp only [Act.put, sA]; try simp only [sB, sC]
      refine goH (i := 7) (by kernel_rfl) rfl (fun K_ hK_ => ?_)
      rw [if_pos (by kernel_rfl)]
      refine wpr_of_list ?_
      (first | ((with_reducible apply wpl_strK); (exact rfl); (exact hdl); (exact Try.underlying9); (exact Try.underlying22); (exact Try.underlying5); intro zn cn wn hzn1 hzn2 _ hrn; (try have ozn : OffR (rowOf B0) (some (⟨zn, 0, none⟩ : Addr)) (bs nm) := ⟨fun _ ad e ⟨ad', e', h'⟩ => by injection e with e; subst e; have h1 := HBLT.out ad' e'; have h2 : wa.heap.size ≤ zn := (by refine Nat.le_trans ?_ hzn1; exact (inferInstance : SzLe wa _).out); have h3 : ad'.block = zn := h'; omega⟩)))
      refine wpList_nil ?_
      unfold onlyN
      refine hK_.out _ _ inferInstance (fun _ => ?_)
      clear hK_ K_
      try simp only [Act.put, sA]; try simp only [sB, sC]
      refine goH (i := 8) (by kernel_rfl) rfl (fun K_ hK_ => ?_)
      go_simp
      refine (refBytes_calls (some ⟨zn, 0, none⟩) nm.length cn nm _ (inferInstance : HR _ (some ⟨zn, 0, none⟩) (bs nm)).out rfl (by omega)).mono ?_
      rintro e w8 ⟨A8, n8, c8, rfl, hF⟩
      have st8 : Step nowhere _ w8 := ⟨hF.out.chg⟩
      have hr8 : HR w8 A8 (bs (encRow nm)) := ⟨hF.out.own.rd⟩
      have HN8 : Hid (n8 = (encRow nm).length) := Lib.hid hF.out.len
      have hl8 : (encRow nm).length = n8 := HN8.out.symm
      have hn8 : n8 ≤ 1000009 := by
        have := HN8.out
        have := HE3.out
        omega
      clear hF
      refine hK_.out _ _ inferInstance (fun _ => ?_)
      clear hK_ K_
      try simp only [Act.put, sA]; try simp only [sB, sC]
      refine goH (i := 9) (by kernel_rfl) rfl (fun K_ hK_ => ?_)
      rw [if_pos (by kernel_rfl)]
      refine wpr_of_list ?_
      (first | ((with_reducible apply wpl_strK); (exact rfl); (exact hdl); (exact Try.underlying9); (exact Try.underlying22); (exact Try.underlying5); intro zn cn wn hzn1 hzn2 _ hrn; (try have ozn : OffR (rowOf B0) (some (⟨zn, 0, none⟩ : Addr)) (bs nm) := ⟨fun _ ad e ⟨ad', e', h'⟩ => by injection e with e; subst e; have h1 := HBLT.out ad' e'; have h2 : wa.heap.size ≤ zn := (by refine Nat.le_trans ?_ hzn1; exact (inferInstance : SzLe wa _).out); have h3 : ad'.block = zn := h'; omega⟩)) | ((with_reducible apply wpl_appendB); (exact rfl); (exact rfl); infer_instance; (first | exact inferInstance | exact ⟨Own.nil _ _ _⟩); infer_instance; (first | (with_reducible assumption) | (with_reducible exact H32.len _) | (focus (simp; done)) | omega); (first | (with_reducible assumption) | omega); intro A' c' wa _ _ _ hcap) | ((with_reducible apply wpl_appendH); (exact rfl); (exact rfl); infer_instance; (first | exact inferInstance | exact ⟨Own.nil _ _ _⟩); infer_instance; (first | (with_reducible assumption) | omega); intro A' c' wa _ _ _ hcap) | ((with_reducible apply (wpl_appendR (α := H32))); (exact rfl); (exact rfl); infer_instance; (first | exact inferInstance | exact ⟨Own.nil _ _ _⟩); infer_instance; (exact rfl); (first | (with_reducible assumption) | (with_reducible exact H32.len _) | (focus (simp; done)) | omega); (first | (with_reducible assumption) | omega); (decide); (decide); intro A' c' wa _ _ _ hcap))
      refine wpList_nil ?_
      unfold onlyN
      refine hK_.out _ _ inferInstance (fun _ => ?_)
      clear hK_ K_
      try simp only [Act.put, sA]; try simp only [sB, sC]
      refine' takeH (i := 10) (v := _) rfl (by kernel_rfl) (by kernel_rfl) (by kernel_rfl) (fun _ _ _ h => h) (yields_of (by rfl) (fun w' _ => ?_)) inferInstance ?_
      rotate_left
      · (go_simp; try with_reducible rfl)
      try simp only [Act.put, sA]; try simp only [sB, sC]
      refine wpAnyH_done (by kernel_rfl) ?_ _
    rotate_left 1
    focus
      rw [if_pos (by kernel_rfl)]
      refine wpr_of_list ?_
      (first | ((with_reducible apply wpl_strK); (exact rfl); (exact hdl); (exact Try.underlying9); (exact Try.underlying22); (exact Try.underlying5); intro zn cn wn hzn1 hzn2 _ hrn; (try have ozn : OffR (rowOf B0) (some (⟨zn, 0, none⟩ : Addr)) (bs nm) := ⟨fun _ ad e ⟨ad', e', h'⟩ => by injection e with e; subst e; have h1 := HBLT.out ad' e'; have h2 : wa.heap.size ≤ zn := (by refine Nat.le_trans ?_ hzn1; exact (inferInstance : SzLe wa _).out); have h3 : ad'.block = zn := h'; omega⟩)))
      refine wpList_nil ?_
      unfold onlyN
      refine hK_.out _ _ inferInstance (fun _ => ?_)
      clear hK_ K_
      try simp only [Act.put, sA]; try simp only [sB, sC]
      refine goH (i := 4) (by kernel_rfl) rfl (fun K_ hK_ => ?_)
      rw [if_pos (by kernel_rfl)]
      refine wpr_of_list ?_
      (first | ((with_reducible apply wpl_strK); (exact rfl); (exact hdl); (exact Try.underlying9); (exact Try.underlying22); (exact Try.underlying5); intro zn cn wn hzn1 hzn2 _ hrn; (try have ozn : OffR (rowOf B0) (some (⟨zn, 0, none⟩ : Addr)) (bs nm) := ⟨fun _ ad e ⟨ad', e', h'⟩ => by injection e with e; subst e; have h1 := HBLT.out ad' e'; have h2 : wa.heap.size ≤ zn := (by refine Nat.le_trans ?_ hzn1; exact (inferInstance : SzLe wa _).out); have h3 : ad'.block = zn := h'; omega⟩)) | ((with_reducible apply wpl_appendB); (exact rfl); (exact rfl); infer_instance; (first | exact inferInstance | exact ⟨Own.nil _ _ _⟩); infer_instance; (first | (with_reducible assumption) | (with_reducible exact H32.len _) | (focus (simp; done)) | omega); (first | (with_reducible assumption) | omega); intro A' c' wa _ _ _ hcap) | ((with_reducible apply wpl_appendH); (exact rfl); (exact rfl); infer_instance; (first | exact inferInstance | exact ⟨Own.nil _ _ _⟩); infer_instance; (first | (with_reducible assumption) | omega); intro A' c' wa _ _ _ hcap) | ((with_reducible apply (wpl_appendR (α := H32))); (exact rfl); (exact rfl); infer_instance; (first | exact inferInstance | exact ⟨Own.nil _ _ _⟩); infer_instance; (exact rfl); (first | (with_reducible assumption) | (with_reducible exact H32.len _) | (focus (simp; done)) | omega); (first | (with_reducible assumption) | omega); (decide); (decide); intro A' c' wa _ _ _ hcap))
      refine wpList_nil ?_
      unfold onlyN
      refine hK_.out _ _ inferInstance (fun _ => ?_)
      clear hK_ K_
      try simp only [Act.put, sA]; try simp only [sB, sC]
      refine goH (i := 8) (by kernel_rfl) rfl (fun K_ hK_ => ?_)
      go_simp
      refine (refBytes_calls (some ⟨zn, 0, none⟩) nm.length cn nm _ (inferInstance : HR _ (some ⟨zn, 0, none⟩) (bs nm)).out rfl (by omega)).mono ?_
      rintro e w8 ⟨A8, n8, c8, rfl, hF⟩
      have st8 : Step nowhere _ w8 := ⟨hF.out.chg⟩
      have hr8 : HR w8 A8 (bs (encRow nm)) := ⟨hF.out.own.rd⟩
      have HN8 : Hid (n8 = (encRow nm).length) := Lib.hid hF.out.len
      have hl8 : (encRow nm).length = n8 := HN8.out.symm
      have hn8 : n8 ≤ 1000009 := by
        have := HN8.out
        have := HE3.out
        omega
      clear hF
      refine hK_.out _ _ inferInstance (fun _ => ?_)
      clear hK_ K_
      try simp only [Act.put, sA]; try simp only [sB, sC]
      refine goH (i := 9) (by kernel_rfl) rfl (fun K_ hK_ => ?_)
      rw [if_pos (by kernel_rfl)]
      refine wpr_of_list ?_
      (first | ((with_reducible apply wpl_strK); (exact rfl); (exact hdl); (exact Try.underlying9); (exact Try.underlying22); (exact Try.underlying5); intro zn cn wn hzn1 hzn2 _ hrn; (try have ozn : OffR (rowOf B0) (some (⟨zn, 0, none⟩ : Addr)) (bs nm) := ⟨fun _ ad e ⟨ad', e', h'⟩ => by injection e with e; subst e; have h1 := HBLT.out ad' e'; have h2 : wa.heap.size ≤ zn := (by refine Nat.le_trans ?_ hzn1; exact (inferInstance : SzLe wa _).out); have h3 : ad'.block = zn := h'; omega⟩)) | ((with_reducible apply wpl_appendB); (exact rfl); (exact rfl); infer_instance; (first | exact inferInstance | exact ⟨Own.nil _ _ _⟩); infer_instance; (first | (with_reducible assumption) | (with_reducible exact H32.len _) | (focus (simp; done)) | omega); (first | (with_reducible assumption) | omega); intro A' c' wa _ _ _ hcap) | ((with_reducible apply wpl_appendH); (exact rfl); (exact rfl); infer_instance; (first | exact inferInstance | exact ⟨Own.nil _ _ _⟩); infer_instance; (first | (with_reducible assumption) | omega); intro A' c' wa _ _ _ hcap) | ((with_reducible apply (wpl_appendR (α := H32))); (exact rfl); (exact rfl); infer_instance; (first | exact inferInstance | exact ⟨Own.nil _ _ _⟩); infer_instance; (exact rfl); (first | (with_reducible assumption) | (with_reducible exact H32.len _) | (focus (simp; done)) | omega); (first | (with_reducible assumption) | omega); (decide); (decide); intro A' c' wa _ _ _ hcap))
      refine wpList_nil ?_
      unfold onlyN
      refine hK_.out _ _ inferInstance (fun _ => ?_)
      clear hK_ K_
      try simp only [Act.put, sA]; try simp only [sB, sC]
      refine' takeH (i := 10) (v := _) rfl (by kernel_rfl) (by kernel_rfl) (by kernel_rfl) (fun _ _ _ h => h) (yields_of (by rfl) (fun w' _ => ?_)) inferInstance ?_
      rotate_left
      · (go_simp; try with_reducible rfl)
      try simp only [Act.put, sA]; try simp only [sB, sC]
      refine wpAnyH_done (by kernel_rfl) ?_ _
    rotate_left 1
  rotate_left 2
  focus
    rw [if_pos (by kernel_rfl)]
    refine wpr_of_list ?_
    (first | ((with_reducible apply wpl_strK); (exact rfl); (exact hdl); (exact Try.underlying9); (exact Try.underlying22); (exact Try.underlying5); intro zn cn wn hzn1 hzn2 _ hrn; (try have ozn : OffR (rowOf B0) (some (⟨zn, 0, none⟩ : Addr)) (bs nm) := ⟨fun _ ad e ⟨ad', e', h'⟩ => by injection e with e; subst e; have h1 := HBLT.out ad' e'; have h2 : wa.heap.size ≤ zn := (by refine Nat.le_trans ?_ hzn1; exact (inferInstance : SzLe wa _).out); have h3 : ad'.block = zn := h'; omega⟩)))
    refine wpList_nil ?_
    unfold onlyN
    refine hK_.out _ _ inferInstance (fun _ => ?_)
    clear hK_ K_
    try simp only [Act.put, sA]; try simp only [sB, sC]
    refine goH (i := 3) (by kernel_rfl) rfl (fun K_ hK_ => ?_)
    go_simp
    refine (refNum_calls (sc : Int) _).mono ?_
    rintro e w7 ⟨A7, n7, c7, rfl, hF⟩
    have st7 : Step nowhere _ w7 := ⟨hF.out.chg⟩
    have hr7 : HR w7 A7 (bs (encAll [(sc : Int)])) := ⟨by rw [encAll_one]; exact hF.out.own.rd⟩
    have HN7 : Hid (n7 = (encAll [(sc : Int)]).length) := Lib.hid (by rw [encAll_one]; exact hF.out.len)
    have hl7 : (encAll [(sc : Int)]).length = n7 := HN7.out.symm
    have hn7 : n7 ≤ 9 := by
      have := HN7.out
      have := HE2.out
      omega
    clear hF
    refine hK_.out _ _ inferInstance (fun _ => ?_)
    clear hK_ K_
    try simp only [Act.put, sA]; try simp only [sB, sC]
    refine goH (i := 4) (by kernel_rfl) rfl (fun K_ hK_ => ?_)
    rw [if_pos (by kernel_rfl)]
    refine wpr_of_list ?_
    (first | ((with_reducible apply wpl_strK); (exact rfl); (exact hdl); (exact Try.underlying9); (exact Try.underlying22); (exact Try.underlying5); intro zn cn wn hzn1 hzn2 _ hrn; (try have ozn : OffR (rowOf B0) (some (⟨zn, 0, none⟩ : Addr)) (bs nm) := ⟨fun _ ad e ⟨ad', e', h'⟩ => by injection e with e; subst e; have h1 := HBLT.out ad' e'; have h2 : wa.heap.size ≤ zn := (by refine Nat.le_trans ?_ hzn1; exact (inferInstance : SzLe wa _).out); have h3 : ad'.block = zn := h'; omega⟩)) | ((with_reducible apply wpl_appendB); (exact rfl); (exact rfl); infer_instance; (first | exact inferInstance | exact ⟨Own.nil _ _ _⟩); infer_instance; (first | (with_reducible assumption) | (with_reducible exact H32.len _) | (focus (simp; done)) | omega); (first | (with_reducible assumption) | omega); intro A' c' wa _ _ _ hcap) | ((with_reducible apply wpl_appendH); (exact rfl); (exact rfl); infer_instance; (first | exact inferInstance | exact ⟨Own.nil _ _ _⟩); infer_instance; (first | (with_reducible assumption) | omega); intro A' c' wa _ _ _ hcap) | ((with_reducible apply (wpl_appendR (α := H32))); (exact rfl); (exact rfl); infer_instance; (first | exact inferInstance | exact ⟨Own.nil _ _ _⟩); infer_instance; (exact rfl); (first | (with_reducible assumption) | (with_reducible exact H32.len _) | (focus (simp; done)) | omega); (first | (with_reducible assumption) | omega); (decide); (decide); intro A' c' wa _ _ _ hcap))
    refine wpList_nil ?_
    unfold onlyN
    refine hK_.out _ _ inferInstance (fun _ => ?_)
    clear hK_ K_
    try simp only [Act.put, sA]; try simp only [sB, sC]
    refine goH (i := 8) (by kernel_rfl) rfl (fun K_ hK_ => ?_)
    go_simp
    refine (refBytes_calls (some ⟨zn, 0, none⟩) nm.length cn nm _ (inferInstance : HR _ (some ⟨zn, 0, none⟩) (bs nm)).out rfl (by omega)).mono ?_
    rintro e w8 ⟨A8, n8, c8, rfl, hF⟩
    have st8 : Step nowhere _ w8 := ⟨hF.out.chg⟩
    have hr8 : HR w8 A8 (bs (encRow nm)) := ⟨hF.out.own.rd⟩
    have HN8 : Hid (n8 = (encRow nm).length) := Lib.hid hF.out.len
    have hl8 : (encRow nm).length = n8 := HN8.out.symm
    have hn8 : n8 ≤ 1000009 := by
      have := HN8.out
      have := HE3.out
      omega
    clear hF
    refine hK_.out _ _ inferInstance (fun _ => ?_)
    clear hK_ K_
    try simp only [Act.put, sA]; try simp only [sB, sC]
    refine goH (i := 9) (by kernel_rfl) rfl (fun K_ hK_ => ?_)
    rw [if_pos (by kernel_rfl)]
    refine wpr_of_list ?_
    (first | ((with_reducible apply wpl_strK); (exact rfl); (exact hdl); (exact Try.underlying9); (exact Try.underlying22); (exact Try.underlying5); intro zn cn wn hzn1 hzn2 _ hrn; (try have ozn : OffR (rowOf B0) (some (⟨zn, 0, none⟩ : Addr)) (bs nm) := ⟨fun _ ad e ⟨ad', e', h'⟩ => by injection e with e; subst e; have h1 := HBLT.out ad' e'; have h2 : wa.heap.size ≤ zn := (by refine Nat.le_trans ?_ hzn1; exact (inferInstance : SzLe wa _).out); have h3 : ad'.block = zn := h'; omega⟩)) | ((with_reducible apply wpl_appendB); (exact rfl); (exact rfl); infer_instance; (first | exact inferInstance | exact ⟨Own.nil _ _ _⟩); infer_instance; (first | (with_reducible assumption) | (with_reducible exact H32.len _) | (focus (simp; done)) | omega); (first | (with_reducible assumption) | omega); intro A' c' wa _ _ _ hcap) | ((with_reducible apply wpl_appendH); (exact rfl); (exact rfl); infer_instance; (first | exact inferInstance | exact ⟨Own.nil _ _ _⟩); infer_instance; (first | (with_reducible assumption) | omega); intro A' c' wa _ _ _ hcap) | ((with_reducible apply (wpl_appendR (α := H32))); (exact rfl); (exact rfl); infer_instance; (first | exact inferInstance | exact ⟨Own.nil _ _ _⟩); infer_instance; (exact rfl); (first | (with_reducible assumption) | (with_reducible exact H32.len _) | (focus (simp; done)) | omega); (first | (with_reducible assumption) | omega); (decide); (decide); intro A' c' wa _ _ _ hcap))
    refine wpList_nil ?_
    unfold onlyN
    refine hK_.out _ _ inferInstance (fun _ => ?_)
    clear hK_ K_
    try simp only [Act.put, sA]; try simp only [sB, sC]
    refine' takeH (i := 10) (v := _) rfl (by kernel_rfl) (by kernel_rfl) (by kernel_rfl) (fun _ _ _ h => h) (yields_of (by rfl) (fun w' _ => ?_)) inferInstance ?_
    rotate_left
    · (go_simp; try with_reducible rfl)
    try simp only [Act.put, sA]; try simp only [sB, sC]
    refine wpAnyH_done (by kernel_rfl) ?_ _
  rotate_left 1
  all_goals
    have hz3 : HB wa zs 57 (bkL sb sz S sc (strL nm) M m d).toArray := inferInstance
    have hr3 : HR wa M (bs md) := inferInstance
    have hO3 : HO wa 5 1 A' (n2' + n7 + n8) c' (bs (encAll [(sb : Int), (sz : Int)] ++ S.l ++ encAll [(sc : Int)] ++ encRow nm)) := inferInstance
    have st3 : Step (rowOf B0) wzs wa := ⟨(st2.chg.mono (fun _ _ h => h.elim)).trans ((stepC : Step (rowOf B0) _ wa).chg) (fun _ _ h => h)⟩
    have hA3 : NewA wzs A' := inferInstance
    have hw3 : NewA w A' := NewA.monoS hA3
    have n3 : Nw w wa := inferInstance
    have hlim3 : n2' + n7 + n8 ≤ 2000000 := by omega
    obtain ⟨n4, hn4⟩ : ∃ x, x = n2' + n7 + n8 := ⟨_, rfl⟩
    have HN4 : Hid (n4 = (encAll [(sb : Int), (sz : Int)]).length + 32 + (encAll [(sc : Int)]).length + (encRow nm).length) := Lib.hid (by have := HN2.out; have := HN7.out; have := HN8.out; omega)
    rw [← hn4] at hO3 hlim3 ⊢
    clear hn4
    go_wp2_with (first | ((with_reducible apply (wpl_loadcell (k := 36))); (exact rfl); (exact hz3); (exact bk_get36 _ _ _ _ _ _ _ _)) | ((with_reducible apply wpl_box_agg); (exact rfl); intro z wz _ _ _) | ((with_reducible apply wpl_box_int); (exact rfl); intro z wz _ _ _) | ((with_reducible apply wpl_box_slice); (exact rfl); intro z wz _ _ _) | ((with_reducible apply wpl_box_str); (exact rfl); intro z wz _ _ _) | ((with_reducible apply wpl_box_bool); (exact rfl); intro z wz _ _ _) | ((with_reducible apply wpl_box_ptr); (exact rfl); intro z wz _ _ _) | ((with_reducible apply wpl_loadrow); (exact rfl); infer_instance; infer_instance; (first | (with_reducible assumption) | (with_reducible exact H32.size _) | kernel_rfl)) | ((with_reducible apply wpl_loadcellN); (exact rfl); infer_instance; (exact rfl)))
    refine (refBytes_calls M m d md wa hr3.out HLL.out (by omega)).mono ?_
    rintro e w9 ⟨A9, n9, c9, rfl, hF⟩
    have st9 : Step nowhere _ w9 := ⟨hF.out.chg⟩
    have nw9 : Nw w w9 := inferInstance
    have hr9 : HR w9 A9 (bs (encRow md)) := ⟨hF.out.own.rd⟩
    have HN9 : Hid (n9 = (encRow md).length) := Lib.hid hF.out.len
    have hl9 : (encRow md).length = n9 := HN9.out.symm
    have hn9 : n9 ≤ 1000009 := by
      have := HN9.out
      have := HE4.out
      omega
    clear hF
    go_wp2_with (first | ((with_reducible apply wpl_appendB); (exact rfl); (exact rfl); infer_instance; infer_instance; infer_instance; (exact hl9); (exact (by omega)); intro A10 c10 w10 _ hO10 _ _) | ((with_reducible apply wpl_box_agg); (exact rfl); intro z wz _ _ _) | ((with_reducible apply wpl_box_int); (exact rfl); intro z wz _ _ _) | ((with_reducible apply wpl_box_slice); (exact rfl); intro z wz _ _ _) | ((with_reducible apply wpl_box_str); (exact rfl); intro z wz _ _ _) | ((with_reducible apply wpl_box_bool); (exact rfl); intro z wz _ _ _) | ((with_reducible apply wpl_box_ptr); (exact rfl); intro z wz _ _ _) | ((with_reducible apply wpl_loadrow); (exact rfl); infer_instance; infer_instance; (first | (with_reducible assumption) | (with_reducible exact H32.size _) | kernel_rfl)) | ((with_reducible apply wpl_loadcellN); (exact rfl); infer_instance; (exact rfl)))
    go_ret
    refine ⟨A10, _, c10, rfl, ?_, inferInstance, inferInstance, stepN⟩
    have h1 := HN4.out
    have h2 := HN9.out
    simp only [List.length_append, S.len]
    omega
end Go.Proofs.Ytegdihpnefoolaa
