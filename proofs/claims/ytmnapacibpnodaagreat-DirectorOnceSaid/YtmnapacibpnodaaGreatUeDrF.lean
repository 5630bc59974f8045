/- DrE, DrF -/
import Derived.Test.YtmnapacibpnodaaGreatUeDrD
section
open Go Go.RowKit
namespace Go.Proofs.YtmnapacibpnodaaGreat
def TargetR.setE (t : TargetR) (nm : List UInt8) : TargetR := ⟨t.l, t.size, t.sum, t.hw, t.ctr, nm⟩
theorem tg_setE (t : TargetR) (nm : List UInt8) : (RowC.enc t).toArray.setIfInBounds 36 (.string (strL nm)) = (RowC.enc (t.setE nm)).toArray := by
  rw [sA]
  congr 1
  show (Value.string (strL t.l) :: .int .i64 t.size :: (bs t.sum.l ++ [.string (strL t.hw), .int .i64 t.ctr, .string (strL t.ecu)])).set 36 _ = _
  rw [show 36 = (32 + 2) + 1 + 1 by decide, sB, sB, List.set_append_right _ _ (by rw [bs_length, t.sum.len]; decide), bs_length, t.sum.len]
  rfl
section
variable {w0 w : World} {zd zr : Nat} {s : DS}
set_option maxRecDepth 100000 in
set_option maxHeartbeats 3200000 in
theorem asgNone_calls (D : DrAt w0 w zd zr s) (nm : List UInt8) (t : TargetR) (hrise : RiseE s.L) (hno : ∀ k, k < s.L.length → (gt s.L k).l ≠ nm) (hmax : s.n ≤ 1000000) :
    Calls Tryz.prog 22 #[.pointer (some ⟨zd, 0, none⟩), .string (strL nm), .agg (RowC.enc t).toArray] w fun e w' => e = .returned (.int .i64 9) ∧ Step nowhere w w' := by
  obtain ⟨A, n, c, L, sd, p0, p1, f, g, v, suf, B, m, d, T⟩ := s
  obtain ⟨hd, ha, hl, hr, hb, hm, hs, zz, az, bz, ld, lr, la, lb⟩ := D
  dsimp only at hd ha hl hr hb hm hs az bz la lb hrise hno hmax
  have hsz : (RowC.enc t).toArray.size = 37 := tgR_len _
  have hon := enc_one t
  have HS := Lib.hid hrise
  have HNO := Lib.hid hno
  clear hrise hno
  go_enter Tryz.func22, Tryz.ntmps22
  go_wp2_with (first | ((with_reducible apply (wpl_box_agg (dst := some 5))); (exact rfl); intro zt wzt _ _ _))
  refine (placeE_calls nm hl hmax HS.out).mono ?_
  rintro e w5 ⟨k, rfl, hp, st5⟩
  have hin : inE L nm k = false := by
    unfold inE
    by_cases hk : k < L.length
    · rw [decide_eq_false (HNO.out k hk), Bool.and_false]
    · rw [decide_eq_false hk, Bool.false_and]
  rw [hin]
  clear hin hp
  go_wp2_with fail
  go_ret
  exact ⟨rfl, stepN⟩
set_option maxRecDepth 100000 in
set_option maxHeartbeats 3200000 in
theorem asg0_calls [nw : Nw w0 w] (D : DrAt w0 w zd zr s) (nm : List UInt8) (t : TargetR) (hrise : RiseE s.L) (j : Nat) (hkl : j < s.L.length) (hkn : (gt s.L j).l = nm) (hmax : s.n ≤ 1000000) (hT : s.T = []) (hhw : t.hw = (gt s.L j).hw) (hmay : mayR (t.setE nm) = true) :
    Calls Tryz.prog 22 #[.pointer (some ⟨zd, 0, none⟩), .string (strL nm), .agg (RowC.enc t).toArray] w fun e w' => ∃ B' d', e = .returned (.int .i64 0) ∧ Nw w0 w' ∧ DrAt w0 w' zd zr ⟨s.A, s.n, s.c, s.L, s.sd, s.p0, s.p1, s.f, s.g, s.v, s.suf, B', 1, d', [t.setE nm]⟩ ∧ Hid (Chg (gzr zr s.B) w w' ∧ ∀ bd, B' = some bd → B' = s.B ∨ w.heap.size ≤ bd.block) := by
  obtain ⟨A, n, c, L, sd, p0, p1, f, g, v, suf, B, m, d, T⟩ := s
  obtain ⟨hd, ha, hl, hr, hb, hm, hs, zz, az, bz, ld, lr, la, lb⟩ := D
  dsimp only at hd ha hl hr hb hm hs az bz la lb hrise hkl hkn hmax hT hhw
  subst hT
  have hm0 : 0 = m := hm
  subst hm0
  have hsz : (RowC.enc t).toArray.size = 37 := tgR_len _
  have hon := enc_one t
  have HS := Lib.hid hrise
  have HKN := Lib.hid hkn
  have HQ : Hid (((strL (t.setE nm).hw).toList == (strL (gt L j).hw).toList) = true) := Lib.hid (by rw [strL_list, strL_list, show (t.setE nm).hw = t.hw from rfl, hhw]; simp)
  have HM := Lib.hid hmay
  have hn9 : n ≤ 9223372036854775807 := by omega
  have hjn : j < n := by omega
  have hdl := hd.out.lt
  have hrl := hr.out.lt
  have hra : HR w A (cellsOf L) := ⟨ha.out.rd⟩
  have HSZ := Lib.hid nw.out.size
  have HAL := Lib.hid (fun ad (e : A = some ad) => ha.out.lt e)
  clear hrise hkn hhw hmay
  go_enter Tryz.func22, Tryz.ntmps22
  go_wp2_with (first | ((with_reducible apply (wpl_box_agg (dst := some 5))); (exact rfl); intro zt wzt _ _ _))
  have hzt : w.heap.size ≤ zt := Nat.le_of_eq (inferInstance : Born w zt).eq.symm
  have otd : OffB (only zt) zd := ⟨fun e => by have e' : zd = zt := e; omega⟩
  have otr : OffB (only zt) zr := ⟨fun e => by have e' : zr = zt := e; omega⟩
  have otA : OffA (only zt) A := ⟨fun ad e h => by have h' : ad.block = zt := h; have := ha.out.lt e; omega⟩
  have otB : OffA (only zt) B := ⟨fun ad e h => by have h' : ad.block = zt := h; have := hb.out.lt e; omega⟩
  refine (placeE_calls nm hl hmax HS.out).mono ?_
  rintro e w5 ⟨k, rfl, hp, st5⟩
  have hjk : k = j := by
    have e1 : ¬ j < k := fun h => by
      have h5 := hp.out.2.1 j h
      rw [HKN.out, bytesLess_irr] at h5
      cases h5
    have e2 : ¬ k < j := fun h => by
      have h5 := hp.out.2.2 k (Nat.le_refl _) (by omega)
      have h6 := HS.out k j h hkl
      rw [HKN.out, h5] at h6
      cases h6
    omega
  subst hjk
  have hin : inE L nm k = true := by
    unfold inE
    rw [decide_eq_true hkl, decide_eq_true HKN.out]
    rfl
  rw [hin]
  clear hin hp
  have ht5 : HB w5 zt 76 (RowC.enc t).toArray := inferInstance
  have hlt36 : 36 < (RowC.enc t).toArray.size := by rw [hsz]; decide
  go_wp2_with (first | ((with_reducible apply (wpl_storecell (k := 36))); (exact rfl); (exact rfl); (exact ht5); (exact rfl); (exact hlt36); intro ws _ hwsr))
  obtain ⟨w6, hw6⟩ : ∃ x : World, x = ws := ⟨_, rfl⟩
  subst hw6
  have ht6 : HB w6 zt 76 (RowC.enc (t.setE nm)).toArray := HB.row_eqD hwsr (tg_setE t nm)
  have hsz6 : (RowC.enc (t.setE nm)).toArray.size = 37 := tgR_len _
  have hon6 := enc_one (t.setE nm)
  have hd6 : HB w6 zd 50 #[.pointer (some ⟨zr, 0, none⟩), .slice A n c] := inferInstance
  have ha6 : HO w6 59 71 A n c (cellsOf L) := inferInstance
  have hr6 : HB w6 zr 84 (rpL sd p0 p1 f g v (.slice B 0 d :: suf)).toArray := inferInstance
  have hb6 : HO w6 76 37 B 0 d (cellsOf ([] : List TargetR)) := inferInstance
  have hra6 : HR w6 A (cellsOf L) := ⟨ha6.out.rd⟩
  have at0 : Above w0 (only zt) := ⟨fun x h => by have h' : x = zt := h; have := HSZ.out; omega⟩
  have at1 : Above w (only zt) := ⟨fun x h => by have h' : x = zt := h; omega⟩
  have nw6 : Nw w0 w6 := inferInstance
  clear ht5 hwsr hd ha hr hb hra
  refine wp_region_N (nowhere) (by kernel_rfl) (fun wd _ _ => ?_)
  refine' takeH (i := 0) (v := _) rfl (by kernel_rfl) (by kernel_rfl) (by kernel_rfl) (fun _ _ _ h => h) (yields_of (by rfl) (fun w' _ => ?_)) inferInstance ?_
  rotate_left
  · (go_simp; try with_reducible rfl)
  try simp only [Act.put, sA]; try simp only [sB, sC]
  refine' takeH (i := 1) (v := _) rfl (by kernel_rfl) (by kernel_rfl) (by kernel_rfl) (fun _ _ _ h => h) (yields_of (by rfl) (fun w' _ => ?_)) inferInstance ?_
  rotate_left
  · ((with_reducible apply (ev_loadcellN (k := 34))); (exact rfl); infer_instance; infer_instance; (exact tgc_34 _))
  try simp only [Act.put, sA]; try simp only [sB, sC]
  refine' takeH (i := 2) (v := _) rfl (by kernel_rfl) (by kernel_rfl) (by kernel_rfl) (fun _ _ _ h => h) (yields_of (by rfl) (fun w' _ => ?_)) inferInstance ?_
  rotate_left
  · (go_simp; try with_reducible rfl)
  try simp only [Act.put, sA]; try simp only [sB, sC]
  refine' takeH (i := 3) (v := _) rfl (by kernel_rfl) (by kernel_rfl) (by kernel_rfl) (fun _ _ _ h => h) (yields_of (by rfl) (fun w' _ => ?_)) inferInstance ?_
  rotate_left
  · (go_simp; try with_reducible rfl)
  try simp only [Act.put, sA]; try simp only [sB, sC]
  refine' takeH (i := 4) (v := _) rfl (by kernel_rfl) (by kernel_rfl) (by kernel_rfl) (fun _ _ _ h => h) (yields_of (by rfl) (fun w' _ => ?_)) inferInstance ?_
  rotate_left
  · (go_simp; try with_reducible rfl)
  try simp only [Act.put, sA]; try simp only [sB, sC]
  refine' takeH (i := 5) (v := _) rfl (by kernel_rfl) (by kernel_rfl) (by kernel_rfl) (fun _ _ _ h => h) (yields_of (by rfl) (fun w' _ => ?_)) inferInstance ?_
  rotate_left
  · ((with_reducible apply ev_loadcellN); (exact rfl); infer_instance; infer_instance; (exact rfl))
  try simp only [Act.put, sA]; try simp only [sB, sC]
  refine' takeH (i := 6) (v := _) rfl (by kernel_rfl) (by kernel_rfl) (by kernel_rfl) (fun _ _ _ h => h) (yields_of (by rfl) (fun w' _ => ?_)) inferInstance ?_
  rotate_left
  · (go_simp; try with_reducible rfl)
  try simp only [Act.put, sA]; try simp only [sB, sC]
  refine' takeH (i := 7) (v := _) rfl (by kernel_rfl) (by kernel_rfl) (by kernel_rfl) (fun _ _ _ h => h) (yields_of (by rfl) (fun w' _ => ?_)) inferInstance ?_
  rotate_left
  · ((with_reducible apply (ev_indexE (α := EnrR) (t := 48))); (exact rfl); (exact rfl); infer_instance; infer_instance; (first | (with_reducible assumption) | omega | (focus (simp; done)) | (focus (simp; omega; done)) | decide); (exact rfl); (decide); (first | (with_reducible assumption) | omega | (focus (simp; done)) | (focus (simp; omega; done)) | decide))
  try simp only [Act.put, sA]; try simp only [sB, sC]
  refine' takeH (i := 8) (v := _) rfl (by kernel_rfl) (by kernel_rfl) (by kernel_rfl) (fun _ _ _ h => h) (yields_of (by rfl) (fun w' _ => ?_)) inferInstance ?_
  rotate_left
  · ((with_reducible apply (ev_fieldE (t := 59))); (exact Tryz.underlying59); (exact rfl); (kernel_rfl); (exact rfl); infer_instance; (exact cells_pos (by decide) (by omega)))
  try simp only [Act.put, sA]; try simp only [sB, sC]
  refine' takeH (i := 9) (v := _) rfl (by kernel_rfl) (by kernel_rfl) (by kernel_rfl) (fun _ _ _ h => h) (yields_of (by rfl) (fun w' _ => ?_)) inferInstance ?_
  rotate_left
  · ((with_reducible apply (ev_loadF (α := EnrR) (k := k) (j := 1) (s := 71))); infer_instance; (exact rfl); infer_instance; (exact rfl); (exact hkl); (exact enc_1 _))
  try simp only [Act.put, sA]; try simp only [sB, sC]
  refine' takeH (i := 10) (v := _) rfl (by kernel_rfl) (by kernel_rfl) (by kernel_rfl) (fun _ _ _ h => h) (yields_of (by rfl) (fun w' _ => ?_)) inferInstance ?_
  rotate_left
  · (go_simp; try with_reducible rfl)
  try simp only [Act.put, sA]; try simp only [sB, sC]
  try simp only [HQ.out]
  refine' takeH (i := 11) (v := _) rfl (by kernel_rfl) (by kernel_rfl) (by kernel_rfl) (fun _ _ _ h => h) (yields_of (by rfl) (fun w' _ => ?_)) inferInstance ?_
  rotate_left
  · (go_simp; try with_reducible rfl)
  try simp only [Act.put, sA]; try simp only [sB, sC]
  refine' takeH (i := 12) (v := _) rfl (by kernel_rfl) (by kernel_rfl) (by kernel_rfl) (fun _ _ _ h => h) (yields_of (by rfl) (fun w' _ => ?_)) inferInstance ?_
  rotate_left
  · ((with_reducible apply ev_loadrow); (exact rfl); infer_instance; infer_instance; (first | (with_reducible assumption) | (with_reducible exact H32.size _) | (with_reducible exact enc_sz _ rfl) | kernel_rfl))
  try simp only [Act.put, sA]; try simp only [sB, sC]
  refine goH (i := 13) (by kernel_rfl) rfl (fun K_ hK_ => ?_)
  go_simp
  refine (dmayBe_calls (t.setE nm) _).mono ?_
  rw [HM.out]
  rintro e w7 ⟨rfl, st7⟩
  refine hK_.out _ _ inferInstance (fun _ => ?_)
  clear hK_ K_
  try simp only [Act.put, sA]; try simp only [sB, sC]
  refine' takeH (i := 14) (v := _) rfl (by kernel_rfl) (by kernel_rfl) (by kernel_rfl) (fun _ _ _ h => h) (yields_of (by rfl) (fun w' _ => ?_)) inferInstance ?_
  rotate_left
  · (go_simp; try with_reducible rfl)
  try simp only [Act.put, sA]; try simp only [sB, sC]
  refine' takeH (i := 15) (v := _) rfl (by kernel_rfl) (by kernel_rfl) (by kernel_rfl) (fun _ _ _ h => h) (yields_of (by rfl) (fun w' _ => ?_)) inferInstance ?_
  rotate_left
  · (go_simp; try with_reducible rfl)
  try simp only [Act.put, sA]; try simp only [sB, sC]
  refine wpAnyH_done (by kernel_rfl) ?_ _
  go_wp2_with fail
  refine (assigned_calls (T := []) nm rfl (by decide)).mono ?_
  rw [show (asgd [] nm).isSome = false from rfl]
  rintro e w8 ⟨rfl, st8⟩
  have hsz8 : (RowC.enc (asgT [] nm)).toArray.size = 37 := tgR_len _
  have hon8 := enc_one (asgT [] nm)
  go_wp2_with (first | ((with_reducible apply (wpl_alloc (dst := some 9))); intro z9 wz9 _ _ _) | ((with_reducible apply wpl_storerow); (exact rfl); (exact rfl); infer_instance; infer_instance; (first | (with_reducible assumption) | (with_reducible exact H32.size _) | (with_reducible exact enc_sz _ rfl) | kernel_rfl); (first | (with_reducible assumption) | (with_reducible exact H32.size _) | (with_reducible exact enc_sz _ rfl) | kernel_rfl); (first | (with_reducible exact u8s_one _) | (with_reducible assumption) | (with_reducible exact enc_one _) | kernel_rfl); intro ws _ _))
  obtain ⟨wq, hwq⟩ : ∃ x : World, x = ws := ⟨_, rfl⟩
  subst hwq
  have htq : HB wq zt 76 (RowC.enc (t.setE nm)).toArray := inferInstance
  have hdq : HB wq zd 50 #[.pointer (some ⟨zr, 0, none⟩), .slice A n c] := inferInstance
  have haq : HO wq 59 71 A n c (cellsOf L) := inferInstance
  have hrq : HB wq zr 84 (rpL sd p0 p1 f g v (.slice B 0 d :: suf)).toArray := inferInstance
  have hbq : HO wq 76 37 B 0 d (cellsOf ([] : List TargetR)) := inferInstance
  have nwq : Nw w0 wq := inferInstance
  have hCq : Hid (Chg nowhere w wq) := Lib.hid (stepN (w0 := w) (w := wq)).chg
  have hszq : w.heap.size ≤ wq.heap.size := (inferInstance : SzLe w wq).out
  have hoff : OffB (rowOf B) zr := ⟨fun ⟨ad, e, h⟩ => (bz ad e).2 h⟩
  have oGd : OffB (gzr zr B) zd := ⟨fun h => by
    rcases h with h | ⟨ad, e, h⟩
    · exact zz h
    · exact (bz ad e).1 h⟩
  have oGt : OffB (gzr zr B) zt := ⟨fun h => by
    rcases h with h | ⟨ad, e, h⟩
    · exact otr.out (show zr = zt from h.symm)
    · exact otB.out ad e h⟩
  have oGA : OffA (gzr zr B) A := ⟨fun ad e h => by
    rcases h with h | ⟨bd, e2, h⟩
    · exact (az ad e).2.1 h
    · exact (az ad e).2.2 bd e2 h.symm⟩
  have aG : Above w0 (gzr zr B) := ⟨fun x h => by
    rcases h with h | ⟨bd, e2, h⟩
    · omega
    · have := lb.out bd e2
      omega⟩
  have hazq : ∀ ad, A = some ad → ad.block < w.heap.size := fun ad e => HAL.out ad e
  clear hd6 ha6 hr6 hb6 ht6 hra6 nw6 st5
  go_wp2_with fail
  refine wp_region_N ((gzr zr B)) (by kernel_rfl) (fun wd _ _ => ?_)
  refine' takeH (i := 0) (v := _) rfl (by kernel_rfl) (by kernel_rfl) (by kernel_rfl) (fun _ _ _ h => h) (yields_of (by rfl) (fun w' _ => ?_)) inferInstance ?_
  rotate_left
  · (go_simp; try with_reducible rfl)
  try simp only [Act.put, sA]; try simp only [sB, sC]
  refine' takeH (i := 1) (v := _) rfl (by kernel_rfl) (by kernel_rfl) (by kernel_rfl) (fun _ _ _ h => h) (yields_of (by rfl) (fun w' _ => ?_)) inferInstance ?_
  rotate_left
  · (go_simp; try with_reducible rfl)
  try simp only [Act.put, sA]; try simp only [sB, sC]
  refine' takeH (i := 2) (v := _) rfl (by kernel_rfl) (by kernel_rfl) (by kernel_rfl) (fun _ _ _ h => h) (yields_of (by rfl) (fun w' _ => ?_)) inferInstance ?_
  rotate_left
  · (go_simp; try with_reducible rfl)
  try simp only [Act.put, sA]; try simp only [sB, sC]
  refine' takeH (i := 3) (v := _) rfl (by kernel_rfl) (by kernel_rfl) (by kernel_rfl) (fun _ _ _ h => h) (yields_of (by rfl) (fun w' _ => ?_)) inferInstance ?_
  rotate_left
  · ((with_reducible apply ev_loadcellN); (exact rfl); infer_instance; infer_instance; (exact rfl))
  try simp only [Act.put, sA]; try simp only [sB, sC]
  refine' takeH (i := 4) (v := _) rfl (by kernel_rfl) (by kernel_rfl) (by kernel_rfl) (fun _ _ _ h => h) (yields_of (by rfl) (fun w' _ => ?_)) inferInstance ?_
  rotate_left
  · ((with_reducible apply ev_loadrow); (exact rfl); infer_instance; infer_instance; (first | (with_reducible assumption) | (with_reducible exact H32.size _) | (with_reducible exact enc_sz _ rfl) | kernel_rfl))
  try simp only [Act.put, sA]; try simp only [sB, sC]
  refine goH (i := 5) (by kernel_rfl) rfl (fun K_ hK_ => ?_)
  go_simp
  refine (publish0_calls (t.setE nm) hoff hs HM.out).mono ?_
  rintro e wf ⟨rfl, stf, B', d', hrf, hbf, hB⟩
  refine hK_.out _ _ inferInstance (fun _ => ?_)
  clear hK_ K_
  try simp only [Act.put, sA]; try simp only [sB, sC]
  refine' takeH (i := 6) (v := _) rfl (by kernel_rfl) (by kernel_rfl) (by kernel_rfl) (fun _ _ _ h => h) (yields_of (by rfl) (fun w' _ => ?_)) inferInstance ?_
  rotate_left
  · (go_simp; try with_reducible rfl)
  try simp only [Act.put, sA]; try simp only [sB, sC]
  refine wpAnyH_done (by kernel_rfl) ?_ _
  have hdf : HB wf zd 50 #[.pointer (some ⟨zr, 0, none⟩), .slice A n c] := inferInstance
  have haf : HO wf 59 71 A n c (cellsOf L) := inferInstance
  have nwf : Nw w0 wf := inferInstance
  have hzd : w.heap.size ≤ wd.heap.size := Nat.le_trans hszq (inferInstance : SzLe wq wd).out
  have hCd : Chg nowhere wq wd := (stepN (w0 := wq) (w := wd)).chg
  have hCf : Chg (gzr zr B) w wf := ((hCq.out.trans hCd (fun _ _ h => h.elim)).mono (T := gzr zr B) (fun _ _ h => h.elim)).trans stf.chg (fun _ _ h => h)
  go_wp2_with fail
  go_ret
  refine ⟨B', d', rfl, nwf, ⟨hdf, haf, hl, hrf, hbf, rfl, hs, zz, fun ad e => ⟨(az ad e).1, (az ad e).2.1, fun bd e2 => ?_⟩, fun bd e2 => ?_, ld, lr, la, ⟨fun bd e2 => ?_⟩⟩, Lib.hid ⟨hCf, fun bd e2 => (hB.out bd e2).imp (fun h => h) (fun h => Nat.le_trans hzd h)⟩⟩
  · rcases hB.out bd e2 with h9 | h9
    · rw [h9] at e2
      exact (az ad e).2.2 bd e2
    · have := hazq ad e
      omega
  · rcases hB.out bd e2 with h9 | h9
    · rw [h9] at e2
      exact bz bd e2
    · exact ⟨by omega, by omega⟩
  · rcases hB.out bd e2 with h9 | h9
    · rw [h9] at e2
      exact lb.out bd e2
    · have := HSZ.out
      omega
end
end Go.Proofs.YtmnapacibpnodaaGreat
end
section
open Go Go.RowKit
namespace Go.Proofs.YtmnapacibpnodaaGreat
theorem DrAt.step {w0 w w' : World} {zd zr : Nat} {s : DS} (D : DrAt w0 w zd zr s) [st : Step nowhere w w'] : DrAt w0 w' zd zr s := by
  obtain ⟨hd, ha, hl, hr, hb, hm, hs, zz, az, bz, ld, lr, la, lb⟩ := D
  exact ⟨inferInstance, inferInstance, hl, inferInstance, inferInstance, hm, hs, zz, az, bz, ld, lr, la, lb⟩
/-- a digest of one byte and noughts -/
def hB (b : UInt8) : H32 := ⟨b :: List.replicate 31 0, by simp⟩
theorem run_hB1 (w : World) : (Instr.build 26 #[(0, .int .u8 1)]).run Tryz.prog w = .ok (.agg (u8s (hB 1).l)) w := by kernel_rfl
theorem run_hB0 (w : World) : (Instr.build 26 #[]).run Tryz.prog w = .ok (.agg (u8s zeroH.l)) w := by kernel_rfl
def tgDk : TargetR := ⟨[120], 0, zeroH, [104], 0, []⟩
theorem run_tgDk (w : World) : (Instr.build 76 #[(0, .string ⟨#[120]⟩), (3, .string ⟨#[104]⟩)]).run Tryz.prog w = .ok (.agg (RowC.enc tgDk).toArray) w := by kernel_rfl
theorem mayX : mayR (tgDk.setE [97]) = true := by decide +kernel
theorem riseE_nil : RiseE [] := fun i j _ h => by cases h
set_option maxRecDepth 100000 in
set_option maxHeartbeats 3200000 in
theorem dknown_calls (w : World) : Calls Tryz.prog 10 #[] w fun e w' => e = .returned (.bool true) ∧ Step nowhere w w' := by
  have kt0 := run_zeroT
  go_enter Tryz.func10, Tryz.ntmps10
  go_wp2_with (first | ((with_reducible apply wpl_build); (exact run_hB1 _)))
  refine (dirNew_calls (hB 1) _).mono ?_
  rintro e w1 ⟨zd, zr, z0, z1, rfl, st1, D1⟩
  have nw1 : Nw w w1 := ⟨st1.chg⟩
  go_wp2_with (first | ((with_reducible apply wpl_build); (exact run_zeroT _)) | ((with_reducible apply (wpl_guard (op := .build _ _))); (exact rfl)))
  refine (asgNone_calls D1 [97] zeroTR riseE_nil (fun k h => by cases h) (show 0 ≤ 1000000 by decide)).mono ?_
  rintro e w2 ⟨rfl, st2⟩
  have D2 := D1.step (w' := w2)
  have nw2 : Nw w w2 := ⟨nw1.out.trans st2.chg (fun _ _ h => h)⟩
  clear D1
  go_wp2_with (first | ((with_reducible apply wpl_build); (exact run_hB0 _)) | ((with_reducible apply (wpl_guard (op := .build _ _))); (exact rfl)))
  refine (enrNew_calls D2 [97] [104] zeroH (by decide +kernel) (by decide +kernel) riseE_nil (fun k h => by cases h) (show 0 < 4 by decide)).mono ?_
  rintro e w3 ⟨A', c', rfl, nw3, D3⟩
  clear D2
  go_wp2_with (first | ((with_reducible apply wpl_build); (exact run_tgDk _)) | ((with_reducible apply (wpl_guard (op := .build _ _))); (exact rfl)))
  refine (asg0_calls D3 [97] tgDk (fun i j h1 h2 => by have : j < 1 := h2; omega) 0 (show 0 < 1 by decide) rfl (show 1 ≤ 1000000 by decide) rfl rfl mayX).mono ?_
  rintro e w4 ⟨B', d', rfl, nw4, D4, _⟩
  go_wp2_with fail
  go_ret
  exact ⟨rfl, stepN⟩
end Go.Proofs.YtmnapacibpnodaaGreat
end
