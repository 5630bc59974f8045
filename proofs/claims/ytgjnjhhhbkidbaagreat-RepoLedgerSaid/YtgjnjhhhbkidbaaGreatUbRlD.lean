/- RlD -/
import Derived.Test.YtgjnjhhhbkidbaaGreatUbRlM
open Go Go.RowKit
namespace Go.Proofs.YtgjnjhhhbkidbaaGreat
/-- what Publish answers, and what is there behind it -/
def pubR (T : List TargetR) (t : TargetR) (k : Nat) : Int × List TargetR := if mayR t then (if inR T (keyT t.l t.ecu) k then (0, T.set k t) else if 16 ≤ T.length then (12, T) else (0, insT T k t)) else (1, T)
section
variable {sd f : H32} {p0 p1 : Value} {g v : Int} {suf : List Value} {B : Option Addr} {m d : Nat} {T : List TargetR} {zr : Nat} {w : World}
set_option maxRecDepth 100000 in
set_option maxHeartbeats 3200000 in
theorem publish_calls (t : TargetR) [hb : HB w zr 73 (rpL sd p0 p1 f g v (.slice B m d :: suf)).toArray] [ho : HO w 42 37 B m d (cellsOf T)] (hl : T.length = m) (hm : m ≤ 1000) (hrise : RiseR T) (hoff : OffB (rowOf B) zr) (hsuf : suf.length = 7) :
    Calls Tryz.prog 13 #[.pointer (some ⟨zr, 0, none⟩), .agg (RowC.enc t).toArray] w fun e w' => ∃ k, e = .returned (.int .i64 (pubR T t k).1) ∧ Hid (PlcR T (keyT t.l t.ecu) k) ∧ Step (gzr zr B) w w' ∧ ∃ B' d', HB w' zr 73 (rpL sd p0 p1 f g v (.slice B' (pubR T t k).2.length d' :: suf)).toArray ∧ HO w' 42 37 B' (pubR T t k).2.length d' (cellsOf (pubR T t k).2) ∧ Hid (∀ ad, B' = some ad → B' = B ∨ w.heap.size ≤ ad.block) := by
  subst hl
  have hsz : (RowC.enc t).toArray.size = 37 := tgR_len t
  have hon := enc_one t
  have HLT : ∀ x, Hid (68 < (rpL sd p0 p1 f g v (x :: suf)).toArray.size) := fun x => Lib.hid (rp_lt sd p0 p1 f g v x suf hsuf)
  have HRISE := Lib.hid hrise
  have HO0 := Lib.hid ho.out
  have HPL : ∃ k, PlcR T (keyT t.l t.ecu) k := plc_exists hrise _
  clear hrise
  cases hmay : mayR t
  case false =>
    have HM := Lib.hid hmay
    clear hmay
    go_enter Tryz.func13, Tryz.ntmps13
    go_wp2_with (first | ((with_reducible apply (wpl_box_agg (dst := some 3))); (exact rfl); intro zt wzt _ _ _) | ((with_reducible apply (wpl_guard (op := .load _ _))); (exact rfl)) | ((with_reducible apply wpl_loadrow); (exact rfl); infer_instance; infer_instance; (first | (with_reducible assumption) | (with_reducible exact H32.size _) | (with_reducible exact enc_sz _ rfl) | kernel_rfl)))
    refine (rmayBe_calls t _).mono ?_
    rw [HM.out]
    rintro e w5 ⟨rfl, st5⟩
    have hb5 : HB w5 zr 73 (rpL sd p0 p1 f g v (.slice B T.length d :: suf)).toArray := inferInstance
    have ho5 : HO w5 42 37 B T.length d (cellsOf T) := inferInstance
    go_wp2_with fail
    go_ret
    obtain ⟨k, hk⟩ := HPL
    have e9 : pubR T t k = (1, T) := by unfold pubR; rw [HM.out]; rfl
    refine ⟨k, by rw [e9]; rfl, Lib.hid hk, ⟨(stepN (w0 := w) (w := w5)).chg.mono (fun _ _ h => h.elim)⟩, B, d, ?_, ?_, Lib.hid (fun ad _ => .inl rfl)⟩
    · rw [e9]; exact hb5
    · rw [e9]; exact ho5
  case true =>
    have HM := Lib.hid hmay
    clear hmay HPL
    go_enter Tryz.func13, Tryz.ntmps13
    go_wp2_with (first | ((with_reducible apply (wpl_box_agg (dst := some 3))); (exact rfl); intro zt wzt _ _ _) | ((with_reducible apply (wpl_guard (op := .load _ _))); (exact rfl)) | ((with_reducible apply wpl_loadrow); (exact rfl); infer_instance; infer_instance; (first | (with_reducible assumption) | (with_reducible exact H32.size _) | (with_reducible exact enc_sz _ rfl) | kernel_rfl)))
    have hztw : w.heap.size ≤ zt := Nat.le_of_eq (inferInstance : Born w zt).eq.symm
    have hzrl := hb.out.lt
    have hBl : ∀ ad, B = some ad → ad.block < w.heap.size := fun ad e => HO0.out.lt e
    have ozt : OffB (gzr zr B) zt := ⟨fun h => by
      rcases h with h | ⟨ad, e, h⟩
      · have h' : zt = zr := h
        omega
      · have := hBl ad e
        omega⟩
    have oBt : OffB (rowOf B) zt := ⟨fun h => ozt.out (.inr h)⟩
    refine (rmayBe_calls t _).mono ?_
    rw [HM.out]
    rintro e w5 ⟨rfl, st5⟩
    have ht5 : HB w5 zt 42 (RowC.enc t).toArray := inferInstance
    have hb5 : HB w5 zr 73 (rpL sd p0 p1 f g v (.slice B T.length d :: suf)).toArray := inferInstance
    have ho5 : HO w5 42 37 B T.length d (cellsOf T) := inferInstance
    go_wp2_with (first | ((with_reducible apply (stop_dst (dst := some 17))); (with_reducible apply (wpl_loadcellN (k := 0))); (exact rfl); (exact ht5); (exact tgc_0 _)) | ((with_reducible apply (stop_dst (dst := some 19))); (with_reducible apply (wpl_loadcellN (k := 36))); (exact rfl); (exact ht5); (exact tgc_36 _)))
    refine (placeR_calls (T := T) t.l t.ecu rfl (by omega) HRISE.out).mono ?_
    rintro e w6 ⟨k, rfl, hp6, st6⟩
    have ht6 : HB w6 zt 42 (RowC.enc t).toArray := inferInstance
    have hb6 : HB w6 zr 73 (rpL sd p0 p1 f g v (.slice B T.length d :: suf)).toArray := inferInstance
    have ho6 : HO w6 42 37 B T.length d (cellsOf T) := inferInstance
    have hkT : k ≤ T.length := hp6.out.1
    have hch6 : Hid (Chg nowhere w w6) := Lib.hid (stepN (w0 := w) (w := w6)).chg
    cases hin : inR T (keyT t.l t.ecu) k
    case true =>
      have hkl : k < T.length := by
        unfold inR at hin
        rw [Bool.and_eq_true, decide_eq_true_eq] at hin
        exact hin.1
      have HIN := Lib.hid hin
      clear hin ht5 hb5 ho5
      have HEN : Hid (RowC.enc t = (RowC.enc (gt T k)).take 0 ++ (RowC.enc t).toArray.toList ++ (RowC.enc (gt T k)).drop (0 + 37)) := Lib.hid (by
        rw [List.take_zero, List.nil_append, List.drop_of_length_le (by rw [RowC.len]; exact Nat.le_refl _), List.append_nil])
      have hkI : (k : Int) < (T.length : Int) := by omega
      have hr6 : HR w6 B (cellsOf T) := ⟨ho6.out.rd⟩
      go_wp2_with fail
      refine wp_region_N ((rowOf B)) (by kernel_rfl) (fun wd _ _ => ?_)
      refine' takeH (i := 0) (v := _) rfl (by kernel_rfl) (by kernel_rfl) (by kernel_rfl) (fun _ _ _ h => h) (yields_of (by rfl) (fun w' _ => ?_)) inferInstance ?_
      rotate_left
      · (go_simp; try with_reducible rfl)
      try simp only [Act.put, sA]; try simp only [sB, sC]
      refine' takeH (i := 1) (v := _) rfl (by kernel_rfl) (by kernel_rfl) (by kernel_rfl) (fun _ _ _ h => h) (yields_of (by rfl) (fun w' _ => ?_)) inferInstance ?_
      rotate_left
      · (go_simp; try with_reducible rfl)
      try simp only [Act.put, sA]; try simp only [sB, sC]
      refine' takeH (i := 2) (v := _) rfl (by kernel_rfl) (by kernel_rfl) (by kernel_rfl) (fun _ _ _ h => h) (yields_of (by rfl) (fun w' _ => ?_)) inferInstance ?_
      rotate_left
      · (go_simp; try with_reducible rfl)
      try simp only [Act.put, sA]; try simp only [sB, sC]
      refine' takeH (i := 3) (v := _) rfl (by kernel_rfl) (by kernel_rfl) (by kernel_rfl) (fun _ _ _ h => h) (yields_of (by rfl) (fun w' _ => ?_)) inferInstance ?_
      rotate_left
      · ((with_reducible apply (ev_loadcellN (k := 68))); (exact rfl); infer_instance; infer_instance; (exact rp_68 _ _ _ _ _ _ _ _))
      try simp only [Act.put, sA]; try simp only [sB, sC]
      refine' takeH (i := 4) (v := _) rfl (by kernel_rfl) (by kernel_rfl) (by kernel_rfl) (fun _ _ _ h => h) (yields_of (by rfl) (fun w' _ => ?_)) inferInstance ?_
      rotate_left
      · (go_simp; try with_reducible rfl)
      try simp only [Act.put, sA]; try simp only [sB, sC]
      refine' takeH (i := 5) (v := _) rfl (by kernel_rfl) (by kernel_rfl) (by kernel_rfl) (fun _ _ _ h => h) (yields_of (by rfl) (fun w' _ => ?_)) inferInstance ?_
      rotate_left
      · ((with_reducible apply ev_loadrow); (exact rfl); infer_instance; infer_instance; (first | (with_reducible assumption) | (with_reducible exact H32.size _) | (with_reducible exact enc_sz _ rfl) | kernel_rfl))
      try simp only [Act.put, sA]; try simp only [sB, sC]
      refine goH (i := 6) (by kernel_rfl) rfl (fun K_ hK_ => ?_)
      rw [if_pos (by kernel_rfl)]
      refine wpr_of_list ?_
      ((with_reducible apply (wpl_indexE (α := TargetR) (t := 40))); (exact rfl); (exact rfl); infer_instance; infer_instance; (first | (with_reducible assumption) | omega | (focus (simp; done)) | (focus (simp; omega; done)) | decide); (exact rfl); (decide); (first | (with_reducible assumption) | omega | (focus (simp; done)) | (focus (simp; omega; done)) | decide))
      refine wpList_nil ?_
      unfold onlyN
      refine hK_.out _ _ inferInstance (fun _ => ?_)
      clear hK_ K_
      try simp only [Act.put, sA]; try simp only [sB, sC]
      refine goH (i := 7) (by kernel_rfl) rfl (fun K_ hK_ => ?_)
      rw [if_pos (by kernel_rfl)]
      refine wpr_of_list ?_
      ((with_reducible apply (wpl_storeQ (α := TargetR) (k := k) (j := 0) (s := 37))); (exact rfl); (exact rfl); infer_instance; infer_instance; (exact hsz); (decide); (exact hon); (exact rfl); (exact hkl); (decide); (exact HEN.out); intro wq stq hoq)
      refine wpList_nil ?_
      unfold onlyN
      refine hK_.out _ _ inferInstance (fun _ => ?_)
      clear hK_ K_
      try simp only [Act.put]
      refine wpAnyH_done (by kernel_rfl) ?_ _
      all_goals
        have hbq : HB wq zr 73 (rpL sd p0 p1 f g v (.slice B T.length d :: suf)).toArray := inferInstance
        go_wp2_with fail
        go_ret
        have hcq : Chg (rowOf B) w6 wq := (inferInstance : Ch (rowOf B) w6 wq).out
        have e9 : pubR T t k = (0, T.set k t) := by unfold pubR; rw [HM.out, HIN.out]; rfl
        refine ⟨k, by rw [e9]; rfl, hp6, ⟨(hch6.out.mono (T := gzr zr B) (fun _ _ h => h.elim)).trans hcq (fun _ _ h => .inr h)⟩, B, d, ?_, ?_, Lib.hid (fun ad _ => .inl rfl)⟩
        · rw [e9, List.length_set]; exact hbq
        · rw [e9, List.length_set]; exact hoq
    case false =>
      have HIN := Lib.hid hin
      clear hin ht5 hb5 ho5
      by_cases hfull : 16 ≤ T.length
      · have hfI : ¬ (T.length : Int) < 16 := by omega
        go_wp2_with (first | ((with_reducible apply (wpl_loadcellN (k := 68))); (exact rfl); (exact hb6); (exact rp_68 _ _ _ _ _ _ _ _)))
        go_ret
        have e9 : pubR T t k = (12, T) := by unfold pubR; rw [HM.out, HIN.out, if_pos rfl, if_neg (by decide), if_pos hfull]
        refine ⟨k, by rw [e9]; rfl, hp6, ⟨hch6.out.mono (fun _ _ h => h.elim)⟩, B, d, ?_, ?_, Lib.hid (fun ad _ => .inl rfl)⟩
        · rw [e9]; exact hb6
        · rw [e9]; exact ho6
      · have hfI : (T.length : Int) < 16 := by omega
        go_wp2_with (first | ((with_reducible apply (wpl_loadcellN (k := 68))); (exact rfl); (exact hb6); (exact rp_68 _ _ _ _ _ _ _ _)))
        refine wp_region_N ((gzr zr B)) (by kernel_rfl) (fun wd _ _ => ?_)
        refine' takeH (i := 0) (v := _) rfl (by kernel_rfl) (by kernel_rfl) (by kernel_rfl) (fun _ _ _ h => h) (yields_of (by rfl) (fun w' _ => ?_)) inferInstance ?_
        rotate_left
        · (go_simp; try with_reducible rfl)
        try simp only [Act.put, sA]; try simp only [sB, sC]
        refine' takeH (i := 1) (v := _) rfl (by kernel_rfl) (by kernel_rfl) (by kernel_rfl) (fun _ _ _ h => h) (yields_of (by rfl) (fun w' _ => ?_)) inferInstance ?_
        rotate_left
        · (go_simp; try with_reducible rfl)
        try simp only [Act.put, sA]; try simp only [sB, sC]
        refine' takeH (i := 2) (v := _) rfl (by kernel_rfl) (by kernel_rfl) (by kernel_rfl) (fun _ _ _ h => h) (yields_of (by rfl) (fun w' _ => ?_)) inferInstance ?_
        rotate_left
        · (go_simp; try with_reducible rfl)
        try simp only [Act.put, sA]; try simp only [sB, sC]
        refine' takeH (i := 3) (v := _) rfl (by kernel_rfl) (by kernel_rfl) (by kernel_rfl) (fun _ _ _ h => h) (yields_of (by rfl) (fun w' _ => ?_)) inferInstance ?_
        rotate_left
        · (go_simp; try with_reducible rfl)
        try simp only [Act.put, sA]; try simp only [sB, sC]
        refine' takeH (i := 5) (v := _) rfl (by kernel_rfl) (by kernel_rfl) (by kernel_rfl) (fun _ _ _ h => h) (yields_of (by rfl) (fun w' _ => ?_)) inferInstance ?_
        rotate_left
        · (go_simp; try with_reducible rfl)
        try simp only [Act.put, sA]; try simp only [sB, sC]
        refine' takeH (i := 6) (v := _) rfl (by kernel_rfl) (by kernel_rfl) (by kernel_rfl) (fun _ _ _ h => h) (yields_of (by rfl) (fun w' _ => ?_)) inferInstance ?_
        rotate_left
        · ((with_reducible apply ev_loadrow); (exact rfl); infer_instance; infer_instance; (first | (with_reducible assumption) | (with_reducible exact H32.size _) | (with_reducible exact enc_sz _ rfl) | kernel_rfl))
        try simp only [Act.put, sA]; try simp only [sB, sC]
        refine wpAnyH_ready (rs := [4, 7]) (by kernel_rfl) (by simp) (AllReadyH.cons rfl (fun K_ hK_ => ?_) (AllReadyH.cons rfl (fun K_ hK_ => ?_) AllReadyH.nil))
        focus
          rw [if_pos (by kernel_rfl)]
          refine wpr_of_list ?_
          ((with_reducible apply (wpl_loadcellN (k := 68))); (exact rfl); infer_instance; (exact rp_68 _ _ _ _ _ _ _ _))
          refine wpList_nil ?_
          unfold onlyN
          refine hK_.out _ _ inferInstance (fun _ => ?_)
          clear hK_ K_
          try simp only [Act.put, sA]; try simp only [sB, sC]
          refine goH (i := 7) (by kernel_rfl) rfl (fun K_ hK_ => ?_)
          rw [if_pos (by kernel_rfl)]
          refine wpr_of_list ?_
          ((with_reducible apply (stop_dst (dst := some 44))); (try simp only [Act.put, sA, sB, sC]); ((with_reducible apply (wpl_bslice (dst := some 44))); (exact run_bsR _ _); intro zb wb _ _ _))
          refine wpList_nil ?_
          unfold onlyN
          refine hK_.out _ _ inferInstance (fun _ => ?_)
          clear hK_ K_
          try simp only [Act.put, sA]; try simp only [sB, sC]
          refine goH (i := 8) (by kernel_rfl) rfl (fun K_ hK_ => ?_)
          go_simp
          have hbz : HB wb zb 42 (cellsOf [t]).toArray := inferInstance
          have hzb : w6.heap.size ≤ zb := Nat.le_trans (inferInstance : SzLe w6 wd).out (Nat.le_of_eq (inferInstance : Born wd zb).eq.symm)
          have hsz6 := hch6.out.size
          have oBz : OffB (rowOf B) zb := ⟨fun ⟨ad, e, h⟩ => by have := hBl ad e; omega⟩
          refine (insM_calls (L := T) t rfl (by omega) hkT oBz).mono ?_
          rintro e w7 ⟨B', d', rfl, st7, ho7, hg7, hc7⟩
          have hb7 : HB w7 zr 73 (rpL sd p0 p1 f g v (.slice B T.length d :: suf)).toArray := inferInstance
          have szb : w.heap.size ≤ wb.heap.size := Nat.le_trans hsz6 (inferInstance : SzLe w6 wb).out
          have oB7 : OffA (only zr) B' := ⟨fun ad e h => by
            have h' : ad.block = zr := h
            rcases hg7.out with h9 | h9
            · exact hoff.out ⟨ad, by rw [← h9]; exact e, h'⟩
            · rw [h9] at e
              injection e with e
              subst e
              have h2 : wb.heap.size = zr := h'
              omega⟩
          refine hK_.out _ _ inferInstance (fun _ => ?_)
          clear hK_ K_
          try simp only [Act.put, sA]; try simp only [sB, sC]
          refine' takeH (i := 9) (v := _) rfl (by kernel_rfl) (by kernel_rfl) (by kernel_rfl) (fun _ _ _ h => h) (yields_of (by rfl) (fun w' _ => ?_)) inferInstance ?_
          rotate_left
          · (go_simp; try with_reducible rfl)
          try simp only [Act.put, sA]; try simp only [sB, sC]
          refine' takeH (i := 10) (v := _) rfl (by kernel_rfl) (by kernel_rfl) (by kernel_rfl) (fun _ _ _ h => h) (yields_of (by rfl) (fun w' _ => ?_)) inferInstance ?_
          rotate_left
          · (go_simp; try with_reducible rfl)
          try simp only [Act.put, sA]; try simp only [sB, sC]
          refine goH (i := 11) (by kernel_rfl) rfl (fun K_ hK_ => ?_)
          rw [if_pos (by kernel_rfl)]
          refine wpr_of_list ?_
          ((with_reducible apply (wpl_storecell (k := 68))); (exact rfl); (exact rfl); (exact hb7); (exact rfl); (exact (HLT _).out); intro ws _ hwsr)
          refine wpList_nil ?_
          unfold onlyN
          refine hK_.out _ _ inferInstance (fun _ => ?_)
          clear hK_ K_
          try simp only [Act.put]
          refine wpAnyH_done (by kernel_rfl) ?_ _
        rotate_left 1
        focus
          rw [if_pos (by kernel_rfl)]
          refine wpr_of_list ?_
          ((with_reducible apply (stop_dst (dst := some 44))); (try simp only [Act.put, sA, sB, sC]); ((with_reducible apply (wpl_bslice (dst := some 44))); (exact run_bsR _ _); intro zb wb _ _ _))
          refine wpList_nil ?_
          unfold onlyN
          refine hK_.out _ _ inferInstance (fun _ => ?_)
          clear hK_ K_
          try simp only [Act.put, sA]; try simp only [sB, sC]
          refine goH (i := 4) (by kernel_rfl) rfl (fun K_ hK_ => ?_)
          rw [if_pos (by kernel_rfl)]
          refine wpr_of_list ?_
          ((with_reducible apply (wpl_loadcellN (k := 68))); (exact rfl); infer_instance; (exact rp_68 _ _ _ _ _ _ _ _))
          refine wpList_nil ?_
          unfold onlyN
          refine hK_.out _ _ inferInstance (fun _ => ?_)
          clear hK_ K_
          try simp only [Act.put, sA]; try simp only [sB, sC]
          refine goH (i := 8) (by kernel_rfl) rfl (fun K_ hK_ => ?_)
          go_simp
          have hbz : HB wb zb 42 (cellsOf [t]).toArray := inferInstance
          have hzb : w6.heap.size ≤ zb := Nat.le_trans (inferInstance : SzLe w6 wd).out (Nat.le_of_eq (inferInstance : Born wd zb).eq.symm)
          have hsz6 := hch6.out.size
          have oBz : OffB (rowOf B) zb := ⟨fun ⟨ad, e, h⟩ => by have := hBl ad e; omega⟩
          refine (insM_calls (L := T) t rfl (by omega) hkT oBz).mono ?_
          rintro e w7 ⟨B', d', rfl, st7, ho7, hg7, hc7⟩
          have hb7 : HB w7 zr 73 (rpL sd p0 p1 f g v (.slice B T.length d :: suf)).toArray := inferInstance
          have szb : w.heap.size ≤ wb.heap.size := Nat.le_trans hsz6 (inferInstance : SzLe w6 wb).out
          have oB7 : OffA (only zr) B' := ⟨fun ad e h => by
            have h' : ad.block = zr := h
            rcases hg7.out with h9 | h9
            · exact hoff.out ⟨ad, by rw [← h9]; exact e, h'⟩
            · rw [h9] at e
              injection e with e
              subst e
              have h2 : wb.heap.size = zr := h'
              omega⟩
          refine hK_.out _ _ inferInstance (fun _ => ?_)
          clear hK_ K_
          try simp only [Act.put, sA]; try simp only [sB, sC]
          refine' takeH (i := 9) (v := _) rfl (by kernel_rfl) (by kernel_rfl) (by kernel_rfl) (fun _ _ _ h => h) (yields_of (by rfl) (fun w' _ => ?_)) inferInstance ?_
          rotate_left
          · (go_simp; try with_reducible rfl)
          try simp only [Act.put, sA]; try simp only [sB, sC]
          refine' takeH (i := 10) (v := _) rfl (by kernel_rfl) (by kernel_rfl) (by kernel_rfl) (fun _ _ _ h => h) (yields_of (by rfl) (fun w' _ => ?_)) inferInstance ?_
          rotate_left
          · (go_simp; try with_reducible rfl)
          try simp only [Act.put, sA]; try simp only [sB, sC]
          refine goH (i := 11) (by kernel_rfl) rfl (fun K_ hK_ => ?_)
          rw [if_pos (by kernel_rfl)]
          refine wpr_of_list ?_
          ((with_reducible apply (wpl_storecell (k := 68))); (exact rfl); (exact rfl); (exact hb7); (exact rfl); (exact (HLT _).out); intro ws _ hwsr)
          refine wpList_nil ?_
          unfold onlyN
          refine hK_.out _ _ inferInstance (fun _ => ?_)
          clear hK_ K_
          try simp only [Act.put]
          refine wpAnyH_done (by kernel_rfl) ?_ _
        rotate_left 1
        all_goals
          have hw2 : HB ws zr 73 (rpL sd p0 p1 f g v (.slice B' (T.length + 1) d' :: suf)).toArray := by
            rw [← rp_set68 sd p0 p1 f g v (.slice B T.length d)]
            exact hwsr
          have ho8 : HO ws 42 37 B' (T.length + 1) d' (cellsOf (insT T k t)) := inferInstance
          have hcs : Chg (gzr zr B) w6 ws := (inferInstance : Ch (gzr zr B) w6 ws).out
          go_wp2_with fail
          go_ret
          have e9 : pubR T t k = (0, insT T k t) := by unfold pubR; rw [HM.out, HIN.out, if_pos rfl, if_neg (by decide), if_neg hfull]
          refine ⟨k, by rw [e9]; rfl, hp6, ⟨(hch6.out.mono (T := gzr zr B) (fun _ _ h => h.elim)).trans hcs (fun _ _ h => h)⟩, B', d', ?_, ?_, Lib.hid (fun ad e => ?_)⟩
          · rw [e9, ins_len _ _ _ hkT]; exact hw2
          · rw [e9, ins_len _ _ _ hkT]; exact ho8
          · rcases hg7.out with h9 | h9
            · exact .inl h9
            · rw [h9] at e
              injection e with e
              subst e
              exact .inr szb
/-- what Remove answers, and what is there behind it -/
def remR (T : List TargetR) (nm ecu : List UInt8) (k : Nat) : Int × List TargetR := if inR T (keyT nm ecu) k then (0, delT T k) else (9, T)
set_option maxRecDepth 100000 in
set_option maxHeartbeats 3200000 in
theorem remove_calls (nm ecu : List UInt8) [hb : HB w zr 73 (rpL sd p0 p1 f g v (.slice B m d :: suf)).toArray] [ho : HO w 42 37 B m d (cellsOf T)] (hl : T.length = m) (hm : m ≤ 1000) (hrise : RiseR T) (hoff : OffB (rowOf B) zr) (hoffA : OffA (only zr) B) (hsuf : suf.length = 7) :
    Calls Tryz.prog 17 #[.pointer (some ⟨zr, 0, none⟩), .string (strL nm), .string (strL ecu)] w fun e w' => ∃ k, e = .returned (.int .i64 (remR T nm ecu k).1) ∧ Hid (PlcR T (keyT nm ecu) k) ∧ Step (gzr zr B) w w' ∧ HB w' zr 73 (rpL sd p0 p1 f g v (.slice B (remR T nm ecu k).2.length d :: suf)).toArray ∧ HO w' 42 37 B (remR T nm ecu k).2.length d (cellsOf (remR T nm ecu k).2) := by
  subst hl
  have HLT : ∀ x, Hid (68 < (rpL sd p0 p1 f g v (x :: suf)).toArray.size) := fun x => Lib.hid (rp_lt sd p0 p1 f g v x suf hsuf)
  have HRISE := Lib.hid hrise
  clear hrise
  go_enter Tryz.func17, Tryz.ntmps17
  go_wp2_with fail
  refine (placeR_calls (T := T) nm ecu rfl (by omega) HRISE.out).mono ?_
  rintro e w6 ⟨k, rfl, hp6, st6⟩
  have hb6 : HB w6 zr 73 (rpL sd p0 p1 f g v (.slice B T.length d :: suf)).toArray := inferInstance
  have ho6 : HO w6 42 37 B T.length d (cellsOf T) := inferInstance
  have hch6 : Hid (Chg nowhere w w6) := Lib.hid (stepN (w0 := w) (w := w6)).chg
  cases hin : inR T (keyT nm ecu) k
  case false =>
    have HIN := Lib.hid hin
    clear hin
    go_wp2_with fail
    go_ret
    have e9 : remR T nm ecu k = (9, T) := by unfold remR; rw [HIN.out]; rfl
    refine ⟨k, by rw [e9]; rfl, hp6, ⟨hch6.out.mono (fun _ _ h => h.elim)⟩, ?_, ?_⟩
    · rw [e9]; exact hb6
    · rw [e9]; exact ho6
  case true =>
    have hkl : k < T.length := ((inR_iff _ _ _).1 hin).1
    have HIN := Lib.hid hin
    clear hin
    obtain ⟨p, hp⟩ : ∃ p, T.length = p + 1 := ⟨T.length - 1, by omega⟩
    have HP := Lib.hid hp
    have ho6' : HO w6 42 37 B (p + 1) d (cellsOf T) := by rw [← hp]; exact ho6
    have hb6' : HB w6 zr 73 (rpL sd p0 p1 f g v (.slice B (p + 1) d :: suf)).toArray := by rw [← hp]; exact hb6
    clear hb6 ho6 hb ho
    go_wp2_with (first | ((with_reducible apply (wpl_loadcellN (k := 68))); (exact rfl); (exact hb6'); (exact rp_68 _ _ _ _ _ _ _ _)))
    have hkp : k ≤ p := by omega
    have hpm : p ≤ 1000000 := by omega
    clear hp
    refine (delM_calls (L := T) HP.out hkp hpm).mono ?_
    rintro e w7 ⟨rfl, st7, ho7⟩
    have hb7 : HB w7 zr 73 (rpL sd p0 p1 f g v (.slice B (p + 1) d :: suf)).toArray := inferInstance
    go_wp2_with (first | ((with_reducible apply (wpl_storecell (k := 68))); (exact rfl); (exact rfl); (exact hb7); (exact rfl); (exact (HLT _).out); intro ws _ hwsr))
    have hw2 : HB ws zr 73 (rpL sd p0 p1 f g v (.slice B p d :: suf)).toArray := by
      rw [← rp_set68 sd p0 p1 f g v (.slice B (p + 1) d)]
      exact hwsr
    have ho8 : HO ws 42 37 B p d (cellsOf (delT T k)) := inferInstance
    have e3 : Chg (only zr) w7 ws := (inferInstance : Step (only zr) w7 ws).chg
    go_ret
    have e9 : remR T nm ecu k = (0, delT T k) := by unfold remR; rw [HIN.out]; rfl
    have hdl : (delT T k).length = p := by
      have := del_len hkl
      have := HP.out
      omega
    refine ⟨k, by rw [e9]; rfl, hp6, ⟨((hch6.out.mono (T := gzr zr B) (fun _ _ h => h.elim)).trans st7.chg (fun _ _ h => .inr h)).trans e3 (fun _ _ h => .inl h)⟩, ?_, ?_⟩
    · rw [e9]; show HB ws zr _ (rpL sd p0 p1 f g v (.slice B (delT T k).length d :: suf)).toArray; rw [hdl]; exact hw2
    · rw [e9]; show HO ws _ 37 B (delT T k).length d (cellsOf (delT T k)); rw [hdl]; exact ho8
end
end Go.Proofs.YtgjnjhhhbkidbaaGreat
