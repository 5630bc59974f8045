/- DrI -/
import Derived.Test.YteieielodooglaaGreatTsDrF
import Derived.Test.YteieielodooglaaGreatTsRpE
open Go Go.RowKit
namespace Go.Proofs.YteieielodooglaaGreat
section
variable {w0 w : World} {zd zr : Nat} {s : DS}
set_option maxRecDepth 100000 in
set_option maxHeartbeats 3200000 in
theorem asgBad_calls (D : DrAt w0 w zd zr s) (nm : List UInt8) (t : TargetR) (hrise : RiseE s.L) (j : Nat) (hkl : j < s.L.length) (hkn : (gt s.L j).l = nm) (hmax : s.n ≤ 1000000) (hbad : (decide (t.hw = (gt s.L j).hw) && mayR (t.setE nm)) = false) :
    Calls Tryz.prog 25 #[.pointer (some ⟨zd, 0, none⟩), .string (strL nm), .agg (RowC.enc t).toArray] w fun e w' => e = .returned (.int .i64 1) ∧ Step nowhere w w' := by
  obtain ⟨A, n, c, L, sd, p0, p1, f, g, v, suf, B, m, d, T⟩ := s
  obtain ⟨hd, ha, hl, hr, hb, hm, hs, zz, az, bz, ld, lr, la, lb⟩ := D
  dsimp only at hd ha hl hr hb hm hs az bz la lb hrise hkl hkn hmax hbad
  have hsz : (RowC.enc t).toArray.size = 37 := tgR_len _
  have hon := enc_one t
  have HS := Lib.hid hrise
  have HKN := Lib.hid hkn
  have hn9 : n ≤ 9223372036854775807 := by omega
  have hjn : j < n := by omega
  have hdl := hd.out.lt
  have hrl := hr.out.lt
  have hra : HR w A (cellsOf L) := ⟨ha.out.rd⟩
  have HBAD := Lib.hid hbad
  clear hrise hkn hbad
  go_enter Tryz.func25, Tryz.ntmps25
  go_wp2_with (first | ((with_reducible apply (wpl_box_agg (dst := some 5))); (exact rfl); intro zt wzt _ _ _))
  have hzt : w.heap.size ≤ zt := Nat.le_of_eq (inferInstance : Born w zt).eq.symm
  have otd : OffB (only zt) zd := ⟨fun e => by have e' : zd = zt := e; omega⟩
  have otr : OffB (only zt) zr := ⟨fun e => by have e' : zr = zt := e; omega⟩
  have otA : OffA (only zt) A := ⟨fun ad e h => by have h' : ad.block = zt := h; have := ha.out.lt e; omega⟩
  have otB : OffA (only zt) B := ⟨fun ad e h => by have h' : ad.block = zt := h; have := hb.out.lt e; omega⟩
  refine (placeE_calls nm hl hmax HS.out).mono ?_
  rintro e w5 ⟨k, rfl, hp, st5⟩
  have hjk : k = j := by
    have e1 : ¬ j < k := fun h => by
      have h5 := hp.out.2.1 j h
      rw [HKN.out, bytesLess_irr] at h5
      cases h5
    have e2 : ¬ k < j := fun h => by
      have h5 := hp.out.2.2 k (Nat.le_refl _) (by omega)
      have h6 := HS.out k j h hkl
      rw [HKN.out, h5] at h6
      cases h6
    omega
  subst hjk
  have hin : inE L nm k = true := by
    unfold inE
    rw [decide_eq_true hkl, decide_eq_true HKN.out]
    rfl
  rw [hin]
  clear hin hp
  have ht5 : HB w5 zt 42 (RowC.enc t).toArray := inferInstance
  have hlt36 : 36 < (RowC.enc t).toArray.size := by rw [hsz]; decide
  go_wp2_with (first | ((with_reducible apply (wpl_storecell (k := 36))); (exact rfl); (exact rfl); (exact ht5); (exact rfl); (exact hlt36); intro ws _ hwsr))
  obtain ⟨w6, hw6⟩ : ∃ x : World, x = ws := ⟨_, rfl⟩
  subst hw6
  have ht6 : HB w6 zt 42 (RowC.enc (t.setE nm)).toArray := HB.row_eqD hwsr (tg_setE t nm)
  have hsz6 : (RowC.enc (t.setE nm)).toArray.size = 37 := tgR_len _
  have hon6 := enc_one (t.setE nm)
  have hd6 : HB w6 zd 107 #[.pointer (some ⟨zr, 0, none⟩), .slice A n c] := inferInstance
  have ha6 : HO w6 114 71 A n c (cellsOf L) := inferInstance
  have hra6 : HR w6 A (cellsOf L) := ⟨ha6.out.rd⟩
  have at0 : Above w (only zt) := ⟨fun x h => by have h' : x = zt := h; omega⟩
  have nw6 : Nw w w6 := inferInstance
  clear ht5 hwsr hd ha hr hb hra
  by_cases hhw : t.hw = (gt L k).hw
  · have hmay : mayR (t.setE nm) = false := by
      have h9 := HBAD.out
      rw [decide_eq_true hhw, Bool.true_and] at h9
      exact h9
    have HQ : Hid (((strL (t.setE nm).hw).toList == (strL (gt L k).hw).toList) = true) := Lib.hid (by rw [strL_list, strL_list, show (t.setE nm).hw = t.hw from rfl, hhw]; simp)
    have HM := Lib.hid hmay
    clear hhw hmay
    refine wp_region_N (nowhere) (by kernel_rfl) (fun wd _ _ => ?_)
    refine' takeH (i := 0) (v := _) rfl (by kernel_rfl) (by kernel_rfl) (by kernel_rfl) (fun _ _ _ h => h) (yields_of (by rfl) (fun w' _ => ?_)) inferInstance ?_
    rotate_left
    · (go_simp; try with_reducible rfl)
    try simp only [Act.put, sA]; try simp only [sB, sC]
    refine' takeH (i := 1) (v := _) rfl (by kernel_rfl) (by kernel_rfl) (by kernel_rfl) (fun _ _ _ h => h) (yields_of (by rfl) (fun w' _ => ?_)) inferInstance ?_
    rotate_left
    · ((with_reducible apply (ev_loadcellN (k := 34))); (exact rfl); infer_instance; infer_instance; (exact tgc_34 _))
    try simp only [Act.put, sA]; try simp only [sB, sC]
    refine' takeH (i := 2) (v := _) rfl (by kernel_rfl) (by kernel_rfl) (by kernel_rfl) (fun _ _ _ h => h) (yields_of (by rfl) (fun w' _ => ?_)) inferInstance ?_
    rotate_left
    · (go_simp; try with_reducible rfl)
    try simp only [Act.put, sA]; try simp only [sB, sC]
    refine' takeH (i := 3) (v := _) rfl (by kernel_rfl) (by kernel_rfl) (by kernel_rfl) (fun _ _ _ h => h) (yields_of (by rfl) (fun w' _ => ?_)) inferInstance ?_
    rotate_left
    · (go_simp; try with_reducible rfl)
    try simp only [Act.put, sA]; try simp only [sB, sC]
    refine' takeH (i := 4) (v := _) rfl (by kernel_rfl) (by kernel_rfl) (by kernel_rfl) (fun _ _ _ h => h) (yields_of (by rfl) (fun w' _ => ?_)) inferInstance ?_
    rotate_left
    · (go_simp; try with_reducible rfl)
    try simp only [Act.put, sA]; try simp only [sB, sC]
    refine' takeH (i := 5) (v := _) rfl (by kernel_rfl) (by kernel_rfl) (by kernel_rfl) (fun _ _ _ h => h) (yields_of (by rfl) (fun w' _ => ?_)) inferInstance ?_
    rotate_left
    · ((with_reducible apply ev_loadcellN); (exact rfl); infer_instance; infer_instance; (exact rfl))
    try simp only [Act.put, sA]; try simp only [sB, sC]
    refine' takeH (i := 6) (v := _) rfl (by kernel_rfl) (by kernel_rfl) (by kernel_rfl) (fun _ _ _ h => h) (yields_of (by rfl) (fun w' _ => ?_)) inferInstance ?_
    rotate_left
    · (go_simp; try with_reducible rfl)
    try simp only [Act.put, sA]; try simp only [sB, sC]
    refine' takeH (i := 7) (v := _) rfl (by kernel_rfl) (by kernel_rfl) (by kernel_rfl) (fun _ _ _ h => h) (yields_of (by rfl) (fun w' _ => ?_)) inferInstance ?_
    rotate_left
    · ((with_reducible apply (ev_indexE (α := EnrR) (t := 105))); (exact rfl); (exact rfl); infer_instance; infer_instance; (first | (with_reducible assumption) | omega | (focus (simp; done)) | (focus (simp; omega; done)) | decide); (exact rfl); (decide); (first | (with_reducible assumption) | omega | (focus (simp; done)) | (focus (simp; omega; done)) | decide))
    try simp only [Act.put, sA]; try simp only [sB, sC]
    refine' takeH (i := 8) (v := _) rfl (by kernel_rfl) (by kernel_rfl) (by kernel_rfl) (fun _ _ _ h => h) (yields_of (by rfl) (fun w' _ => ?_)) inferInstance ?_
    rotate_left
    · ((with_reducible apply (ev_fieldE (t := 114))); (exact Tryz.underlying114); (exact rfl); (kernel_rfl); (exact rfl); infer_instance; (exact cells_pos (by decide) (by omega)))
    try simp only [Act.put, sA]; try simp only [sB, sC]
    refine' takeH (i := 9) (v := _) rfl (by kernel_rfl) (by kernel_rfl) (by kernel_rfl) (fun _ _ _ h => h) (yields_of (by rfl) (fun w' _ => ?_)) inferInstance ?_
    rotate_left
    · ((with_reducible apply (ev_loadF (α := EnrR) (k := k) (j := 1) (s := 71))); infer_instance; (exact rfl); infer_instance; (exact rfl); (exact hkl); (exact enc_1 _))
    try simp only [Act.put, sA]; try simp only [sB, sC]
    refine' takeH (i := 10) (v := _) rfl (by kernel_rfl) (by kernel_rfl) (by kernel_rfl) (fun _ _ _ h => h) (yields_of (by rfl) (fun w' _ => ?_)) inferInstance ?_
    rotate_left
    · (go_simp; try with_reducible rfl)
    try simp only [Act.put, sA]; try simp only [sB, sC]
    try simp only [HQ.out]
    refine' takeH (i := 11) (v := _) rfl (by kernel_rfl) (by kernel_rfl) (by kernel_rfl) (fun _ _ _ h => h) (yields_of (by rfl) (fun w' _ => ?_)) inferInstance ?_
    rotate_left
    · (go_simp; try with_reducible rfl)
    try simp only [Act.put, sA]; try simp only [sB, sC]
    refine' takeH (i := 12) (v := _) rfl (by kernel_rfl) (by kernel_rfl) (by kernel_rfl) (fun _ _ _ h => h) (yields_of (by rfl) (fun w' _ => ?_)) inferInstance ?_
    rotate_left
    · ((with_reducible apply ev_loadrow); (exact rfl); infer_instance; infer_instance; (first | (with_reducible assumption) | (with_reducible exact H32.size _) | (with_reducible exact enc_sz _ rfl) | kernel_rfl))
    try simp only [Act.put, sA]; try simp only [sB, sC]
    refine goH (i := 13) (by kernel_rfl) rfl (fun K_ hK_ => ?_)
    go_simp
    refine (dmayBe_calls (t.setE nm) _).mono ?_
    rw [HM.out]
    rintro e w7 ⟨rfl, st7⟩
    refine hK_.out _ _ inferInstance (fun _ => ?_)
    clear hK_ K_
    try simp only [Act.put, sA]; try simp only [sB, sC]
    refine' takeH (i := 14) (v := _) rfl (by kernel_rfl) (by kernel_rfl) (by kernel_rfl) (fun _ _ _ h => h) (yields_of (by rfl) (fun w' _ => ?_)) inferInstance ?_
    rotate_left
    · (go_simp; try with_reducible rfl)
    try simp only [Act.put, sA]; try simp only [sB, sC]
    refine' takeH (i := 15) (v := _) rfl (by kernel_rfl) (by kernel_rfl) (by kernel_rfl) (fun _ _ _ h => h) (yields_of (by rfl) (fun w' _ => ?_)) inferInstance ?_
    rotate_left
    · (go_simp; try with_reducible rfl)
    try simp only [Act.put, sA]; try simp only [sB, sC]
    refine wpAnyH_done (by kernel_rfl) ?_ _
    go_wp2_with fail
    go_ret
    exact ⟨rfl, stepN⟩
  · have HQ : Hid (((strL (t.setE nm).hw).toList == (strL (gt L k).hw).toList) = false) := Lib.hid (by rw [strL_list, strL_list, show (t.setE nm).hw = t.hw from rfl]; simpa using hhw)
    clear hhw
    refine wp_region_N (nowhere) (by kernel_rfl) (fun wd _ _ => ?_)
    refine' takeH (i := 0) (v := _) rfl (by kernel_rfl) (by kernel_rfl) (by kernel_rfl) (fun _ _ _ h => h) (yields_of (by rfl) (fun w' _ => ?_)) inferInstance ?_
    rotate_left
    · (go_simp; try with_reducible rfl)
    try simp only [Act.put, sA]; try simp only [sB, sC]
    refine' takeH (i := 1) (v := _) rfl (by kernel_rfl) (by kernel_rfl) (by kernel_rfl) (fun _ _ _ h => h) (yields_of (by rfl) (fun w' _ => ?_)) inferInstance ?_
    rotate_left
    · ((with_reducible apply (ev_loadcellN (k := 34))); (exact rfl); infer_instance; infer_instance; (exact tgc_34 _))
    try simp only [Act.put, sA]; try simp only [sB, sC]
    refine' takeH (i := 2) (v := _) rfl (by kernel_rfl) (by kernel_rfl) (by kernel_rfl) (fun _ _ _ h => h) (yields_of (by rfl) (fun w' _ => ?_)) inferInstance ?_
    rotate_left
    · (go_simp; try with_reducible rfl)
    try simp only [Act.put, sA]; try simp only [sB, sC]
    refine' takeH (i := 3) (v := _) rfl (by kernel_rfl) (by kernel_rfl) (by kernel_rfl) (fun _ _ _ h => h) (yields_of (by rfl) (fun w' _ => ?_)) inferInstance ?_
    rotate_left
    · (go_simp; try with_reducible rfl)
    try simp only [Act.put, sA]; try simp only [sB, sC]
    refine' takeH (i := 4) (v := _) rfl (by kernel_rfl) (by kernel_rfl) (by kernel_rfl) (fun _ _ _ h => h) (yields_of (by rfl) (fun w' _ => ?_)) inferInstance ?_
    rotate_left
    · (go_simp; try with_reducible rfl)
    try simp only [Act.put, sA]; try simp only [sB, sC]
    refine' takeH (i := 5) (v := _) rfl (by kernel_rfl) (by kernel_rfl) (by kernel_rfl) (fun _ _ _ h => h) (yields_of (by rfl) (fun w' _ => ?_)) inferInstance ?_
    rotate_left
    · ((with_reducible apply ev_loadcellN); (exact rfl); infer_instance; infer_instance; (exact rfl))
    try simp only [Act.put, sA]; try simp only [sB, sC]
    refine' takeH (i := 6) (v := _) rfl (by kernel_rfl) (by kernel_rfl) (by kernel_rfl) (fun _ _ _ h => h) (yields_of (by rfl) (fun w' _ => ?_)) inferInstance ?_
    rotate_left
    · (go_simp; try with_reducible rfl)
    try simp only [Act.put, sA]; try simp only [sB, sC]
    refine' takeH (i := 7) (v := _) rfl (by kernel_rfl) (by kernel_rfl) (by kernel_rfl) (fun _ _ _ h => h) (yields_of (by rfl) (fun w' _ => ?_)) inferInstance ?_
    rotate_left
    · ((with_reducible apply (ev_indexE (α := EnrR) (t := 105))); (exact rfl); (exact rfl); infer_instance; infer_instance; (first | (with_reducible assumption) | omega | (focus (simp; done)) | (focus (simp; omega; done)) | decide); (exact rfl); (decide); (first | (with_reducible assumption) | omega | (focus (simp; done)) | (focus (simp; omega; done)) | decide))
    try simp only [Act.put, sA]; try simp only [sB, sC]
    refine' takeH (i := 8) (v := _) rfl (by kernel_rfl) (by kernel_rfl) (by kernel_rfl) (fun _ _ _ h => h) (yields_of (by rfl) (fun w' _ => ?_)) inferInstance ?_
    rotate_left
    · ((with_reducible apply (ev_fieldE (t := 114))); (exact Tryz.underlying114); (exact rfl); (kernel_rfl); (exact rfl); infer_instance; (exact cells_pos (by decide) (by omega)))
    try simp only [Act.put, sA]; try simp only [sB, sC]
    refine' takeH (i := 9) (v := _) rfl (by kernel_rfl) (by kernel_rfl) (by kernel_rfl) (fun _ _ _ h => h) (yields_of (by rfl) (fun w' _ => ?_)) inferInstance ?_
    rotate_left
    · ((with_reducible apply (ev_loadF (α := EnrR) (k := k) (j := 1) (s := 71))); infer_instance; (exact rfl); infer_instance; (exact rfl); (exact hkl); (exact enc_1 _))
    try simp only [Act.put, sA]; try simp only [sB, sC]
    refine' takeH (i := 10) (v := _) rfl (by kernel_rfl) (by kernel_rfl) (by kernel_rfl) (fun _ _ _ h => h) (yields_of (by rfl) (fun w' _ => ?_)) inferInstance ?_
    rotate_left
    · (go_simp; try with_reducible rfl)
    try simp only [Act.put, sA]; try simp only [sB, sC]
    try simp only [HQ.out]
    refine' takeH (i := 11) (v := _) rfl (by kernel_rfl) (by kernel_rfl) (by kernel_rfl) (fun _ _ _ h => h) (yields_of (by rfl) (fun w' _ => ?_)) inferInstance ?_
    rotate_left
    · (go_simp; try with_reducible rfl)
    try simp only [Act.put, sA]; try simp only [sB, sC]
    refine takeH (i := 12) (v := undef) rfl (by kernel_rfl) (by kernel_rfl) (by kernel_rfl) (fun _ _ _ h => h) (Or.inr ⟨by rfl, rfl⟩) inferInstance ?_
    try simp only [Act.put, sA]; try simp only [sB, sC]
    refine takeH (i := 13) (v := undef) rfl (by kernel_rfl) (by kernel_rfl) (by kernel_rfl) (fun _ _ _ h => h) (Or.inr ⟨by rfl, rfl⟩) inferInstance ?_
    try simp only [Act.put, sA]; try simp only [sB, sC]
    refine takeH (i := 14) (v := undef) rfl (by kernel_rfl) (by kernel_rfl) (by kernel_rfl) (fun _ _ _ h => h) (Or.inr ⟨by rfl, rfl⟩) inferInstance ?_
    try simp only [Act.put, sA]; try simp only [sB, sC]
    refine' takeH (i := 15) (v := _) rfl (by kernel_rfl) (by kernel_rfl) (by kernel_rfl) (fun _ _ _ h => h) (yields_of (by rfl) (fun w' _ => ?_)) inferInstance ?_
    rotate_left
    · (go_simp; try with_reducible rfl)
    try simp only [Act.put, sA]; try simp only [sB, sC]
    refine wpAnyH_done (by kernel_rfl) ?_ _
    go_wp2_with fail
    go_ret
    exact ⟨rfl, stepN⟩
set_option maxRecDepth 100000 in
set_option maxHeartbeats 3200000 in
theorem asg1_calls [nw : Nw w0 w] (D : DrAt w0 w zd zr s) (nm : List UInt8) (t : TargetR) (hrise : RiseE s.L) (j : Nat) (hkl : j < s.L.length) (hkn : (gt s.L j).l = nm) (hmax : s.n ≤ 1000000) (t0 : TargetR) (hT : s.T = [t0]) (he0 : t0.ecu = nm) (hhw : t.hw = (gt s.L j).hw) (hmay : mayR (t.setE nm) = true) :
    Calls Tryz.prog 25 #[.pointer (some ⟨zd, 0, none⟩), .string (strL nm), .agg (RowC.enc t).toArray] w fun e w' => ∃ B' d', e = .returned (.int .i64 0) ∧ Nw w0 w' ∧ DrAt w0 w' zd zr ⟨s.A, s.n, s.c, s.L, s.sd, s.p0, s.p1, s.f, s.g, s.v, s.suf, B', 1, d', [t.setE nm]⟩ ∧ Hid (Chg (gzr zr s.B) w w' ∧ ∀ bd, B' = some bd → B' = s.B ∨ w.heap.size ≤ bd.block) := by
  obtain ⟨A, n, c, L, sd, p0, p1, f, g, v, suf, B, m, d, T⟩ := s
  obtain ⟨hd, ha, hl, hr, hb, hm, hs, zz, az, bz, ld, lr, la, lb⟩ := D
  dsimp only at hd ha hl hr hb hm hs az bz la lb hrise hkl hkn hmax hT hhw
  subst hT
  have hm0 : 1 = m := hm
  subst hm0
  have HE0 := Lib.hid he0
  clear he0
  have hsz : (RowC.enc t).toArray.size = 37 := tgR_len _
  have hon := enc_one t
  have HS := Lib.hid hrise
  have HKN := Lib.hid hkn
  have HQ : Hid (((strL (t.setE nm).hw).toList == (strL (gt L j).hw).toList) = true) := Lib.hid (by rw [strL_list, strL_list, show (t.setE nm).hw = t.hw from rfl, hhw]; simp)
  have HM := Lib.hid hmay
  have hn9 : n ≤ 9223372036854775807 := by omega
  have hjn : j < n := by omega
  have hdl := hd.out.lt
  have hrl := hr.out.lt
  have hra : HR w A (cellsOf L) := ⟨ha.out.rd⟩
  have HSZ := Lib.hid nw.out.size
  have HBL := Lib.hid (fun bd (e : B = some bd) => hb.out.lt e)
  have HAL := Lib.hid (fun ad (e : A = some ad) => ha.out.lt e)
  clear hrise hkn hhw hmay
  go_enter Tryz.func25, Tryz.ntmps25
  go_wp2_with (first | ((with_reducible apply (wpl_box_agg (dst := some 5))); (exact rfl); intro zt wzt _ _ _))
  have hzt : w.heap.size ≤ zt := Nat.le_of_eq (inferInstance : Born w zt).eq.symm
  have otd : OffB (only zt) zd := ⟨fun e => by have e' : zd = zt := e; omega⟩
  have otr : OffB (only zt) zr := ⟨fun e => by have e' : zr = zt := e; omega⟩
  have otA : OffA (only zt) A := ⟨fun ad e h => by have h' : ad.block = zt := h; have := ha.out.lt e; omega⟩
  have otB : OffA (only zt) B := ⟨fun ad e h => by have h' : ad.block = zt := h; have := hb.out.lt e; omega⟩
  refine (placeE_calls nm hl hmax HS.out).mono ?_
  rintro e w5 ⟨k, rfl, hp, st5⟩
  have hjk : k = j := by
    have e1 : ¬ j < k := fun h => by
      have h5 := hp.out.2.1 j h
      rw [HKN.out, bytesLess_irr] at h5
      cases h5
    have e2 : ¬ k < j := fun h => by
      have h5 := hp.out.2.2 k (Nat.le_refl _) (by omega)
      have h6 := HS.out k j h hkl
      rw [HKN.out, h5] at h6
      cases h6
    omega
  subst hjk
  have hin : inE L nm k = true := by
    unfold inE
    rw [decide_eq_true hkl, decide_eq_true HKN.out]
    rfl
  rw [hin]
  clear hin hp
  have ht5 : HB w5 zt 42 (RowC.enc t).toArray := inferInstance
  have hlt36 : 36 < (RowC.enc t).toArray.size := by rw [hsz]; decide
  go_wp2_with (first | ((with_reducible apply (wpl_storecell (k := 36))); (exact rfl); (exact rfl); (exact ht5); (exact rfl); (exact hlt36); intro ws _ hwsr))
  obtain ⟨w6, hw6⟩ : ∃ x : World, x = ws := ⟨_, rfl⟩
  subst hw6
  have ht6 : HB w6 zt 42 (RowC.enc (t.setE nm)).toArray := HB.row_eqD hwsr (tg_setE t nm)
  have hsz6 : (RowC.enc (t.setE nm)).toArray.size = 37 := tgR_len _
  have hon6 := enc_one (t.setE nm)
  have hd6 : HB w6 zd 107 #[.pointer (some ⟨zr, 0, none⟩), .slice A n c] := inferInstance
  have ha6 : HO w6 114 71 A n c (cellsOf L) := inferInstance
  have hr6 : HB w6 zr 73 (rpL sd p0 p1 f g v (.slice B 1 d :: suf)).toArray := inferInstance
  have hb6 : HO w6 42 37 B 1 d (cellsOf [t0]) := inferInstance
  have hra6 : HR w6 A (cellsOf L) := ⟨ha6.out.rd⟩
  have at0 : Above w0 (only zt) := ⟨fun x h => by have h' : x = zt := h; have := HSZ.out; omega⟩
  have at1 : Above w (only zt) := ⟨fun x h => by have h' : x = zt := h; omega⟩
  have nw6 : Nw w0 w6 := inferInstance
  clear ht5 hwsr hd ha hr hb hra
  refine wp_region_N (nowhere) (by kernel_rfl) (fun wd _ _ => ?_)
  refine' takeH (i := 0) (v := _) rfl (by kernel_rfl) (by kernel_rfl) (by kernel_rfl) (fun _ _ _ h => h) (yields_of (by rfl) (fun w' _ => ?_)) inferInstance ?_
  rotate_left
  · (go_simp; try with_reducible rfl)
  try simp only [Act.put, sA]; try simp only [sB, sC]
  refine' takeH (i := 1) (v := _) rfl (by kernel_rfl) (by kernel_rfl) (by kernel_rfl) (fun _ _ _ h => h) (yields_of (by rfl) (fun w' _ => ?_)) inferInstance ?_
  rotate_left
  · ((with_reducible apply (ev_loadcellN (k := 34))); (exact rfl); infer_instance; infer_instance; (exact tgc_34 _))
  try simp only [Act.put, sA]; try simp only [sB, sC]
  refine' takeH (i := 2) (v := _) rfl (by kernel_rfl) (by kernel_rfl) (by kernel_rfl) (fun _ _ _ h => h) (yields_of (by rfl) (fun w' _ => ?_)) inferInstance ?_
  rotate_left
  · (go_simp; try with_reducible rfl)
  try simp only [Act.put, sA]; try simp only [sB, sC]
  refine' takeH (i := 3) (v := _) rfl (by kernel_rfl) (by kernel_rfl) (by kernel_rfl) (fun _ _ _ h => h) (yields_of (by rfl) (fun w' _ => ?_)) inferInstance ?_
  rotate_left
  · (go_simp; try with_reducible rfl)
  try simp only [Act.put, sA]; try simp only [sB, sC]
  refine' takeH (i := 4) (v := _) rfl (by kernel_rfl) (by kernel_rfl) (by kernel_rfl) (fun _ _ _ h => h) (yields_of (by rfl) (fun w' _ => ?_)) inferInstance ?_
  rotate_left
  · (go_simp; try with_reducible rfl)
  try simp only [Act.put, sA]; try simp only [sB, sC]
  refine' takeH (i := 5) (v := _) rfl (by kernel_rfl) (by kernel_rfl) (by kernel_rfl) (fun _ _ _ h => h) (yields_of (by rfl) (fun w' _ => ?_)) inferInstance ?_
  rotate_left
  · ((with_reducible apply ev_loadcellN); (exact rfl); infer_instance; infer_instance; (exact rfl))
  try simp only [Act.put, sA]; try simp only [sB, sC]
  refine' takeH (i := 6) (v := _) rfl (by kernel_rfl) (by kernel_rfl) (by kernel_rfl) (fun _ _ _ h => h) (yields_of (by rfl) (fun w' _ => ?_)) inferInstance ?_
  rotate_left
  · (go_simp; try with_reducible rfl)
  try simp only [Act.put, sA]; try simp only [sB, sC]
  refine' takeH (i := 7) (v := _) rfl (by kernel_rfl) (by kernel_rfl) (by kernel_rfl) (fun _ _ _ h => h) (yields_of (by rfl) (fun w' _ => ?_)) inferInstance ?_
  rotate_left
  · ((with_reducible apply (ev_indexE (α := EnrR) (t := 105))); (exact rfl); (exact rfl); infer_instance; infer_instance; (first | (with_reducible assumption) | omega | (focus (simp; done)) | (focus (simp; omega; done)) | decide); (exact rfl); (decide); (first | (with_reducible assumption) | omega | (focus (simp; done)) | (focus (simp; omega; done)) | decide))
  try simp only [Act.put, sA]; try simp only [sB, sC]
  refine' takeH (i := 8) (v := _) rfl (by kernel_rfl) (by kernel_rfl) (by kernel_rfl) (fun _ _ _ h => h) (yields_of (by rfl) (fun w' _ => ?_)) inferInstance ?_
  rotate_left
  · ((with_reducible apply (ev_fieldE (t := 114))); (exact Tryz.underlying114); (exact rfl); (kernel_rfl); (exact rfl); infer_instance; (exact cells_pos (by decide) (by omega)))
  try simp only [Act.put, sA]; try simp only [sB, sC]
  refine' takeH (i := 9) (v := _) rfl (by kernel_rfl) (by kernel_rfl) (by kernel_rfl) (fun _ _ _ h => h) (yields_of (by rfl) (fun w' _ => ?_)) inferInstance ?_
  rotate_left
  · ((with_reducible apply (ev_loadF (α := EnrR) (k := k) (j := 1) (s := 71))); infer_instance; (exact rfl); infer_instance; (exact rfl); (exact hkl); (exact enc_1 _))
  try simp only [Act.put, sA]; try simp only [sB, sC]
  refine' takeH (i := 10) (v := _) rfl (by kernel_rfl) (by kernel_rfl) (by kernel_rfl) (fun _ _ _ h => h) (yields_of (by rfl) (fun w' _ => ?_)) inferInstance ?_
  rotate_left
  · (go_simp; try with_reducible rfl)
  try simp only [Act.put, sA]; try simp only [sB, sC]
  try simp only [HQ.out]
  refine' takeH (i := 11) (v := _) rfl (by kernel_rfl) (by kernel_rfl) (by kernel_rfl) (fun _ _ _ h => h) (yields_of (by rfl) (fun w' _ => ?_)) inferInstance ?_
  rotate_left
  · (go_simp; try with_reducible rfl)
  try simp only [Act.put, sA]; try simp only [sB, sC]
  refine' takeH (i := 12) (v := _) rfl (by kernel_rfl) (by kernel_rfl) (by kernel_rfl) (fun _ _ _ h => h) (yields_of (by rfl) (fun w' _ => ?_)) inferInstance ?_
  rotate_left
  · ((with_reducible apply ev_loadrow); (exact rfl); infer_instance; infer_instance; (first | (with_reducible assumption) | (with_reducible exact H32.size _) | (with_reducible exact enc_sz _ rfl) | kernel_rfl))
  try simp only [Act.put, sA]; try simp only [sB, sC]
  refine goH (i := 13) (by kernel_rfl) rfl (fun K_ hK_ => ?_)
  go_simp
  refine (dmayBe_calls (t.setE nm) _).mono ?_
  rw [HM.out]
  rintro e w7 ⟨rfl, st7⟩
  refine hK_.out _ _ inferInstance (fun _ => ?_)
  clear hK_ K_
  try simp only [Act.put, sA]; try simp only [sB, sC]
  refine' takeH (i := 14) (v := _) rfl (by kernel_rfl) (by kernel_rfl) (by kernel_rfl) (fun _ _ _ h => h) (yields_of (by rfl) (fun w' _ => ?_)) inferInstance ?_
  rotate_left
  · (go_simp; try with_reducible rfl)
  try simp only [Act.put, sA]; try simp only [sB, sC]
  refine' takeH (i := 15) (v := _) rfl (by kernel_rfl) (by kernel_rfl) (by kernel_rfl) (fun _ _ _ h => h) (yields_of (by rfl) (fun w' _ => ?_)) inferInstance ?_
  rotate_left
  · (go_simp; try with_reducible rfl)
  try simp only [Act.put, sA]; try simp only [sB, sC]
  refine wpAnyH_done (by kernel_rfl) ?_ _
  go_wp2_with fail
  refine (assigned_calls (T := [t0]) nm rfl (show 1 ≤ 1000000 by decide)).mono ?_
  have hasg : asgd [t0] nm = some t0 := by simp [asgd, HE0.out]
  have hasT : asgT [t0] nm = t0 := by simp [asgT, hasg]
  rw [hasT, hasg, show (some t0).isSome = true from rfl]
  rintro e w8 ⟨rfl, st8⟩
  have hsz8 : (RowC.enc t0).toArray.size = 37 := tgR_len _
  have hon8 := enc_one t0
  clear hasg hasT
  go_wp2_with (first | ((with_reducible apply (wpl_alloc (dst := some 9))); intro z9 wz9 _ _ _) | ((with_reducible apply wpl_storerow); (exact rfl); (exact rfl); infer_instance; infer_instance; (first | (with_reducible assumption) | (with_reducible exact H32.size _) | (with_reducible exact enc_sz _ rfl) | kernel_rfl); (first | (with_reducible assumption) | (with_reducible exact H32.size _) | (with_reducible exact enc_sz _ rfl) | kernel_rfl); (first | (with_reducible exact u8s_one _) | (with_reducible assumption) | (with_reducible exact enc_one _) | kernel_rfl); intro ws _ _))
  obtain ⟨wq, hwq⟩ : ∃ x : World, x = ws := ⟨_, rfl⟩
  subst hwq
  have htq : HB wq zt 42 (RowC.enc (t.setE nm)).toArray := inferInstance
  have hdq : HB wq zd 107 #[.pointer (some ⟨zr, 0, none⟩), .slice A n c] := inferInstance
  have haq : HO wq 114 71 A n c (cellsOf L) := inferInstance
  have hrq : HB wq zr 73 (rpL sd p0 p1 f g v (.slice B 1 d :: suf)).toArray := inferInstance
  have hbq : HO wq 42 37 B 1 d (cellsOf [t0]) := inferInstance
  have nwq : Nw w0 wq := inferInstance
  have hCq : Hid (Chg nowhere w wq) := Lib.hid (stepN (w0 := w) (w := wq)).chg
  have hszq : w.heap.size ≤ wq.heap.size := (inferInstance : SzLe w wq).out
  have hz9 : w.heap.size ≤ z9 := Nat.le_trans (inferInstance : SzLe w w8).out (Nat.le_of_eq (inferInstance : Born w8 z9).eq.symm)
  have hoff : OffB (rowOf B) zr := ⟨fun ⟨ad, e, h⟩ => (bz ad e).2 h⟩
  have oGd : OffB (gzr zr B) zd := ⟨fun h => by
    rcases h with h | ⟨ad, e, h⟩
    · exact zz h
    · exact (bz ad e).1 h⟩
  have oGt : OffB (gzr zr B) zt := ⟨fun h => by
    rcases h with h | ⟨ad, e, h⟩
    · exact otr.out (show zr = zt from h.symm)
    · exact otB.out ad e h⟩
  have oGA : OffA (gzr zr B) A := ⟨fun ad e h => by
    rcases h with h | ⟨bd, e2, h⟩
    · exact (az ad e).2.1 h
    · exact (az ad e).2.2 bd e2 h.symm⟩
  have aG : Above w0 (gzr zr B) := ⟨fun x h => by
    rcases h with h | ⟨bd, e2, h⟩
    · omega
    · have := lb.out bd e2
      omega⟩
  have hazq : ∀ ad, A = some ad → ad.block < w.heap.size := fun ad e => HAL.out ad e
  clear hd6 ha6 hr6 hb6 ht6 hra6 nw6 st5
  go_wp2_with fail
  have hz9q : HB wq z9 42 (RowC.enc t0).toArray := inferInstance
  have hbz : ∀ bd, B = some bd → bd.block < w.heap.size := fun bd e => HBL.out bd e
  have oG9 : OffB (gzr zr B) z9 := ⟨fun h => by
    rcases h with h | ⟨ad, e, h⟩
    · omega
    · have := hbz ad e
      omega⟩
  have orB : OffA (only zr) B := ⟨fun ad e h => (bz ad e).2 h⟩
  refine wp_region_N ((gzr zr B)) (by kernel_rfl) (fun wd _ _ => ?_)
  refine' takeH (i := 0) (v := _) rfl (by kernel_rfl) (by kernel_rfl) (by kernel_rfl) (fun _ _ _ h => h) (yields_of (by rfl) (fun w' _ => ?_)) inferInstance ?_
  rotate_left
  · (go_simp; try with_reducible rfl)
  try simp only [Act.put, sA]; try simp only [sB, sC]
  refine' takeH (i := 1) (v := _) rfl (by kernel_rfl) (by kernel_rfl) (by kernel_rfl) (fun _ _ _ h => h) (yields_of (by rfl) (fun w' _ => ?_)) inferInstance ?_
  rotate_left
  · (go_simp; try with_reducible rfl)
  try simp only [Act.put, sA]; try simp only [sB, sC]
  refine' takeH (i := 2) (v := _) rfl (by kernel_rfl) (by kernel_rfl) (by kernel_rfl) (fun _ _ _ h => h) (yields_of (by rfl) (fun w' _ => ?_)) inferInstance ?_
  rotate_left
  · (go_simp; try with_reducible rfl)
  try simp only [Act.put, sA]; try simp only [sB, sC]
  refine' takeH (i := 3) (v := _) rfl (by kernel_rfl) (by kernel_rfl) (by kernel_rfl) (fun _ _ _ h => h) (yields_of (by rfl) (fun w' _ => ?_)) inferInstance ?_
  rotate_left
  · ((with_reducible apply ev_loadcellN); (exact rfl); infer_instance; infer_instance; (exact rfl))
  try simp only [Act.put, sA]; try simp only [sB, sC]
  refine' takeH (i := 4) (v := _) rfl (by kernel_rfl) (by kernel_rfl) (by kernel_rfl) (fun _ _ _ h => h) (yields_of (by rfl) (fun w' _ => ?_)) inferInstance ?_
  rotate_left
  · (go_simp; try with_reducible rfl)
  try simp only [Act.put, sA]; try simp only [sB, sC]
  refine' takeH (i := 5) (v := _) rfl (by kernel_rfl) (by kernel_rfl) (by kernel_rfl) (fun _ _ _ h => h) (yields_of (by rfl) (fun w' _ => ?_)) inferInstance ?_
  rotate_left
  · ((with_reducible apply (ev_loadcellN (k := 0))); (exact rfl); infer_instance; infer_instance; (exact tgc_0 _))
  try simp only [Act.put, sA]; try simp only [sB, sC]
  refine' takeH (i := 6) (v := _) rfl (by kernel_rfl) (by kernel_rfl) (by kernel_rfl) (fun _ _ _ h => h) (yields_of (by rfl) (fun w' _ => ?_)) inferInstance ?_
  rotate_left
  · (go_simp; try with_reducible rfl)
  try simp only [Act.put, sA]; try simp only [sB, sC]
  refine' takeH (i := 7) (v := _) rfl (by kernel_rfl) (by kernel_rfl) (by kernel_rfl) (fun _ _ _ h => h) (yields_of (by rfl) (fun w' _ => ?_)) inferInstance ?_
  rotate_left
  · ((with_reducible apply (ev_loadcellN (k := 36))); (exact rfl); infer_instance; infer_instance; (exact tgc_36 _))
  try simp only [Act.put, sA]; try simp only [sB, sC]
  refine goH (i := 8) (by kernel_rfl) rfl (fun K_ hK_ => ?_)
  go_simp
  refine (remove1_calls t0 hoff orB hs).mono ?_
  rintro e wr ⟨rfl, str, hrr, hbr⟩
  refine hK_.out _ _ inferInstance (fun _ => ?_)
  clear hK_ K_
  try simp only [Act.put, sA]; try simp only [sB, sC]
  refine wpAnyH_done (by kernel_rfl) ?_ _
  have htr : HB wr zt 42 (RowC.enc (t.setE nm)).toArray := inferInstance
  have hdr : HB wr zd 107 #[.pointer (some ⟨zr, 0, none⟩), .slice A n c] := inferInstance
  have har : HO wr 114 71 A n c (cellsOf L) := inferInstance
  have nwr : Nw w0 wr := inferInstance
  have hCe : Chg nowhere wq wd := (stepN (w0 := wq) (w := wd)).chg
  have hCr : Hid (Chg (gzr zr B) w wr) := Lib.hid (((hCq.out.trans hCe (fun _ _ h => h.elim)).mono (T := gzr zr B) (fun _ _ h => h.elim)).trans str.chg (fun _ _ h => h))
  clear hCe
  have hszr : w.heap.size ≤ wr.heap.size := Nat.le_trans hszq (inferInstance : SzLe wq wr).out
  clear htq hdq haq hrq hbq nwq
  go_wp2_with fail
  refine wp_region_N ((gzr zr B)) (by kernel_rfl) (fun wd _ _ => ?_)
  refine' takeH (i := 0) (v := _) rfl (by kernel_rfl) (by kernel_rfl) (by kernel_rfl) (fun _ _ _ h => h) (yields_of (by rfl) (fun w' _ => ?_)) inferInstance ?_
  rotate_left
  · (go_simp; try with_reducible rfl)
  try simp only [Act.put, sA]; try simp only [sB, sC]
  refine' takeH (i := 1) (v := _) rfl (by kernel_rfl) (by kernel_rfl) (by kernel_rfl) (fun _ _ _ h => h) (yields_of (by rfl) (fun w' _ => ?_)) inferInstance ?_
  rotate_left
  · (go_simp; try with_reducible rfl)
  try simp only [Act.put, sA]; try simp only [sB, sC]
  refine' takeH (i := 2) (v := _) rfl (by kernel_rfl) (by kernel_rfl) (by kernel_rfl) (fun _ _ _ h => h) (yields_of (by rfl) (fun w' _ => ?_)) inferInstance ?_
  rotate_left
  · (go_simp; try with_reducible rfl)
  try simp only [Act.put, sA]; try simp only [sB, sC]
  refine' takeH (i := 3) (v := _) rfl (by kernel_rfl) (by kernel_rfl) (by kernel_rfl) (fun _ _ _ h => h) (yields_of (by rfl) (fun w' _ => ?_)) inferInstance ?_
  rotate_left
  · ((with_reducible apply ev_loadcellN); (exact rfl); infer_instance; infer_instance; (exact rfl))
  try simp only [Act.put, sA]; try simp only [sB, sC]
  refine' takeH (i := 4) (v := _) rfl (by kernel_rfl) (by kernel_rfl) (by kernel_rfl) (fun _ _ _ h => h) (yields_of (by rfl) (fun w' _ => ?_)) inferInstance ?_
  rotate_left
  · ((with_reducible apply ev_loadrow); (exact rfl); infer_instance; infer_instance; (first | (with_reducible assumption) | (with_reducible exact H32.size _) | (with_reducible exact enc_sz _ rfl) | kernel_rfl))
  try simp only [Act.put, sA]; try simp only [sB, sC]
  refine goH (i := 5) (by kernel_rfl) rfl (fun K_ hK_ => ?_)
  go_simp
  refine (publish0_calls (t.setE nm) hoff hs HM.out).mono ?_
  rintro e wf ⟨rfl, stf, B', d', hrf, hbf, hB⟩
  refine hK_.out _ _ inferInstance (fun _ => ?_)
  clear hK_ K_
  try simp only [Act.put, sA]; try simp only [sB, sC]
  refine' takeH (i := 6) (v := _) rfl (by kernel_rfl) (by kernel_rfl) (by kernel_rfl) (fun _ _ _ h => h) (yields_of (by rfl) (fun w' _ => ?_)) inferInstance ?_
  rotate_left
  · (go_simp; try with_reducible rfl)
  try simp only [Act.put, sA]; try simp only [sB, sC]
  refine wpAnyH_done (by kernel_rfl) ?_ _
  have hdf : HB wf zd 107 #[.pointer (some ⟨zr, 0, none⟩), .slice A n c] := inferInstance
  have haf : HO wf 114 71 A n c (cellsOf L) := inferInstance
  have nwf : Nw w0 wf := inferInstance
  have hzd : w.heap.size ≤ wd.heap.size := Nat.le_trans hszr (inferInstance : SzLe wr wd).out
  have hCd : Chg nowhere wr wd := (stepN (w0 := wr) (w := wd)).chg
  have hCf : Chg (gzr zr B) w wf := (hCr.out.trans hCd (fun _ _ h => h.elim)).trans stf.chg (fun _ _ h => h)
  go_wp2_with fail
  go_ret
  refine ⟨B', d', rfl, nwf, ⟨hdf, haf, hl, hrf, hbf, rfl, hs, zz, fun ad e => ⟨(az ad e).1, (az ad e).2.1, fun bd e2 => ?_⟩, fun bd e2 => ?_, ld, lr, la, ⟨fun bd e2 => ?_⟩⟩, Lib.hid ⟨hCf, fun bd e2 => (hB.out bd e2).imp (fun h => h) (fun h => Nat.le_trans hzd h)⟩⟩
  · rcases hB.out bd e2 with h9 | h9
    · rw [h9] at e2
      exact (az ad e).2.2 bd e2
    · have := hazq ad e
      omega
  · rcases hB.out bd e2 with h9 | h9
    · rw [h9] at e2
      exact bz bd e2
    · exact ⟨by omega, by omega⟩
  · rcases hB.out bd e2 with h9 | h9
    · rw [h9] at e2
      exact lb.out bd e2
    · have := HSZ.out
      omega
end
end Go.Proofs.YteieielodooglaaGreat
