/- RpN -/
import Derived.Test.YteieielodooglaaGreatTsRpC
import Derived.Test.YteieielodooglaaGreatTsRdD
open Go Go.RowKit
namespace Go.Proofs.YteieielodooglaaGreat
instance cellKp : CellT Tryz.prog 70 := ⟨fun _ => by kernel_rfl, fun _ => by kernel_rfl⟩
instance rowTRp : RowT Tryz.prog 73 76 := ⟨by kernel_rfl, _, Tryz.underlying73, rfl⟩
theorem rp_33 (sd : H32) (p0 p1 : Value) (f : H32) (g v : Int) (tl : List Value) : nth (rpL sd p0 p1 f g v tl) 33 = some p1 := by
  rw [← nth_get]
  exact rp_get32 sd p0 p1 f g v tl 1
theorem rp_put34 (sd : H32) (p0 p1 : Value) (f f' : H32) (g v : Int) (tl : List Value) : (rpL sd p0 p1 f g v tl).toArray.toList.take 34 ++ (u8s f'.l).toList ++ (rpL sd p0 p1 f g v tl).toArray.toList.drop (34 + 32) = (rpL sd p0 p1 f' g v tl).toArray.toList := by
  have h := congrArg Array.toList (lay_rp34 sd p0 p1 f f' g v tl)
  rw [lay, f'.size] at h
  exact h
theorem rp_k34 (sd : H32) (p0 p1 : Value) (f : H32) (g v : Int) (tl : List Value) (h : tl.length = 8) : 34 + 32 ≤ (rpL sd p0 p1 f g v tl).toArray.size := by
  rw [List.size_toArray, rpL_len _ _ _ _ _ _ _ h]
  decide
set_option maxRecDepth 100000 in
set_option maxHeartbeats 1600000 in
theorem repoNew_calls (sd : H32) (w : World) :
    Calls Tryz.prog 9 #[.agg (u8s sd.l)] w fun e w' => ∃ zr z0 z1, e = .returned (.pointer (some ⟨zr, 0, none⟩)) ∧ Step nowhere w w' ∧ Hid (w.heap.size ≤ zr ∧ w.heap.size ≤ z0 ∧ w.heap.size ≤ z1 ∧ z0 ≠ zr ∧ z1 ≠ zr ∧ z0 ≠ z1) ∧ HB w' zr 73 (rpL sd (.pointer (some ⟨z0, 0, none⟩)) (.pointer (some ⟨z1, 0, none⟩)) (pubS (kSeed sd 1)) 1 0 rpTl).toArray ∧ KeyAt w' z0 (kSeed sd 0) 0 ∧ KeyAt w' z1 (kSeed sd 1) 0 := by
  go_enter Tryz.func9, Tryz.ntmps9
  go_wp2_with (first | ((with_reducible apply (wpl_box_agg (dst := some 1))); (exact rfl); intro zs wzs _ _ _) | ((with_reducible apply (wpl_box_int (dst := some 1))); (exact rfl); intro zs wzs _ _ _) | ((with_reducible apply (wpl_box_slice (dst := some 1))); (exact rfl); intro zs wzs _ _ _) | ((with_reducible apply (wpl_box_str (dst := some 1))); (exact rfl); intro zs wzs _ _ _) | ((with_reducible apply (wpl_box_bool (dst := some 1))); (exact rfl); intro zs wzs _ _ _) | ((with_reducible apply (wpl_box_ptr (dst := some 1))); (exact rfl); intro zs wzs _ _ _) | ((with_reducible apply wpl_box_agg); (exact rfl); intro z wz _ _ _) | ((with_reducible apply wpl_box_int); (exact rfl); intro z wz _ _ _) | ((with_reducible apply wpl_box_slice); (exact rfl); intro z wz _ _ _) | ((with_reducible apply wpl_box_str); (exact rfl); intro z wz _ _ _) | ((with_reducible apply wpl_box_bool); (exact rfl); intro z wz _ _ _) | ((with_reducible apply wpl_box_ptr); (exact rfl); intro z wz _ _ _) | ((with_reducible apply wpl_loadrow); (exact rfl); infer_instance; infer_instance; (first | (with_reducible assumption) | (with_reducible exact H32.size _) | kernel_rfl)) | ((with_reducible apply wpl_loadcellN); (exact rfl); infer_instance; (exact rfl)) | ((with_reducible apply wpl_storerow); (exact rfl); (exact rfl); infer_instance; infer_instance; (first | (with_reducible assumption) | (with_reducible exact H32.size _) | kernel_rfl); (first | (with_reducible assumption) | (with_reducible exact H32.size _) | kernel_rfl); (first | (with_reducible exact u8s_one _) | (with_reducible assumption) | kernel_rfl); intro ws _ _) | ((with_reducible apply wpl_storecell); (exact rfl); (exact rfl); infer_instance; (exact rfl); (first | (with_reducible assumption) | omega | (focus (simp; done)) | (focus (simp; omega; done)) | decide); intro ws _ _))
  have hS : HB wzs zs 23 (u8s sd.l) := inferInstance
  have hsl := hS.out.lt
  have hnw : Nw w wzs := ⟨(stepN (w0 := w) (w := wzs)).chg⟩
  refine wp_region_N (nowhere) (by kernel_rfl) (fun wd _ _ => ?_)
  refine' takeH (i := 0) (v := _) rfl (by kernel_rfl) (by kernel_rfl) (by kernel_rfl) (fun _ _ _ h => h) (yields_of (by rfl) (fun w' _ => ?_)) inferInstance ?_
  rotate_left
  · (first | ((with_reducible apply (ev_loadRSeed (t := 23))); (exact rfl); infer_instance; infer_instance) | ((with_reducible apply (ev_loadRN (t := 3))); (exact rfl); infer_instance; infer_instance) | ((with_reducible apply (ev_loadRL (t := 50))); (exact rfl); infer_instance; infer_instance) | ((with_reducible apply ev_loadrow); (exact rfl); infer_instance; infer_instance; (first | (with_reducible assumption) | (with_reducible exact H32.size _) | kernel_rfl)) | ((with_reducible apply (ev_loadhash (t := 23))); (exact rfl); infer_instance; infer_instance; (first | (with_reducible assumption) | omega)) | ((with_reducible apply ev_loadcellN); (exact rfl); infer_instance; infer_instance; (exact rfl)) | ((with_reducible apply (ev_loadint (t := 3))); (exact rfl); infer_instance; infer_instance; (first | (with_reducible assumption) | omega)) | ((with_reducible apply (ev_loadbyte (t := 5))); (exact rfl); infer_instance; infer_instance; (first | (with_reducible assumption) | omega)) | (go_simp; try with_reducible rfl))
  try simp only [Act.put, sA]; try simp only [sB, sC]
  refine' takeH (i := 1) (v := _) rfl (by kernel_rfl) (by kernel_rfl) (by kernel_rfl) (fun _ _ _ h => h) (yields_of (by rfl) (fun w' _ => ?_)) inferInstance ?_
  rotate_left
  · (first | ((with_reducible apply (ev_loadRSeed (t := 23))); (exact rfl); infer_instance; infer_instance) | ((with_reducible apply (ev_loadRN (t := 3))); (exact rfl); infer_instance; infer_instance) | ((with_reducible apply (ev_loadRL (t := 50))); (exact rfl); infer_instance; infer_instance) | ((with_reducible apply ev_loadrow); (exact rfl); infer_instance; infer_instance; (first | (with_reducible assumption) | (with_reducible exact H32.size _) | kernel_rfl)) | ((with_reducible apply (ev_loadhash (t := 23))); (exact rfl); infer_instance; infer_instance; (first | (with_reducible assumption) | omega)) | ((with_reducible apply ev_loadcellN); (exact rfl); infer_instance; infer_instance; (exact rfl)) | ((with_reducible apply (ev_loadint (t := 3))); (exact rfl); infer_instance; infer_instance; (first | (with_reducible assumption) | omega)) | ((with_reducible apply (ev_loadbyte (t := 5))); (exact rfl); infer_instance; infer_instance; (first | (with_reducible assumption) | omega)) | (go_simp; try with_reducible rfl))
  try simp only [Act.put, sA]; try simp only [sB, sC]
  refine' takeH (i := 3) (v := _) rfl (by kernel_rfl) (by kernel_rfl) (by kernel_rfl) (fun _ _ _ h => h) (yields_of (by rfl) (fun w' _ => ?_)) inferInstance ?_
  rotate_left
  · (first | ((with_reducible apply (ev_loadRSeed (t := 23))); (exact rfl); infer_instance; infer_instance) | ((with_reducible apply (ev_loadRN (t := 3))); (exact rfl); infer_instance; infer_instance) | ((with_reducible apply (ev_loadRL (t := 50))); (exact rfl); infer_instance; infer_instance) | ((with_reducible apply ev_loadrow); (exact rfl); infer_instance; infer_instance; (first | (with_reducible assumption) | (with_reducible exact H32.size _) | kernel_rfl)) | ((with_reducible apply (ev_loadhash (t := 23))); (exact rfl); infer_instance; infer_instance; (first | (with_reducible assumption) | omega)) | ((with_reducible apply ev_loadcellN); (exact rfl); infer_instance; infer_instance; (exact rfl)) | ((with_reducible apply (ev_loadint (t := 3))); (exact rfl); infer_instance; infer_instance; (first | (with_reducible assumption) | omega)) | ((with_reducible apply (ev_loadbyte (t := 5))); (exact rfl); infer_instance; infer_instance; (first | (with_reducible assumption) | omega)) | (go_simp; try with_reducible rfl))
  try simp only [Act.put, sA]; try simp only [sB, sC]
  refine goH (i := 2) (by kernel_rfl) rfl (fun K_ hK_ => ?_)
  go_simp
  refine (keyOf_calls sd 0 _).mono ?_
  rintro e w5 ⟨z0, rfl, st5, hz0, hk0⟩
  refine hK_.out _ _ inferInstance (fun _ => ?_)
  clear hK_ K_
  try simp only [Act.put, sA]; try simp only [sB, sC]
  refine goH (i := 4) (by kernel_rfl) rfl (fun K_ hK_ => ?_)
  go_simp
  refine (keyOf_calls sd 1 _).mono ?_
  rintro e w6 ⟨z1, rfl, st6, hz1, hk1⟩
  refine hK_.out _ _ inferInstance (fun _ => ?_)
  clear hK_ K_
  try simp only [Act.put, sA]; try simp only [sB, sC]
  refine' takeH (i := 5) (v := _) rfl (by kernel_rfl) (by kernel_rfl) (by kernel_rfl) (fun _ _ _ h => h) (yields_of (by rfl) (fun w' _ => ?_)) inferInstance ?_
  rotate_left
  · (first | ((with_reducible apply ev_build); exact run_newRp _ _ _ _) | (go_simp; try with_reducible rfl))
  try simp only [Act.put, sA]; try simp only [sB, sC]
  refine goH (i := 6) (by kernel_rfl) rfl (fun K_ hK_ => ?_)
  rw [if_pos (by kernel_rfl)]
  refine wpr_of_list ?_
  (first | ((with_reducible apply wpl_build); (exact run_newRp _ _ _ _)) | ((with_reducible apply (wpl_box_agg (dst := some 10))); (exact rfl); intro zr wzr _ _ _) | ((with_reducible apply (wpl_box_int (dst := some 10))); (exact rfl); intro zr wzr _ _ _) | ((with_reducible apply (wpl_box_slice (dst := some 10))); (exact rfl); intro zr wzr _ _ _) | ((with_reducible apply (wpl_box_str (dst := some 10))); (exact rfl); intro zr wzr _ _ _) | ((with_reducible apply (wpl_box_bool (dst := some 10))); (exact rfl); intro zr wzr _ _ _) | ((with_reducible apply (wpl_box_ptr (dst := some 10))); (exact rfl); intro zr wzr _ _ _) | ((with_reducible apply wpl_box_agg); (exact rfl); intro z wz _ _ _) | ((with_reducible apply wpl_box_int); (exact rfl); intro z wz _ _ _) | ((with_reducible apply wpl_box_slice); (exact rfl); intro z wz _ _ _) | ((with_reducible apply wpl_box_str); (exact rfl); intro z wz _ _ _) | ((with_reducible apply wpl_box_bool); (exact rfl); intro z wz _ _ _) | ((with_reducible apply wpl_box_ptr); (exact rfl); intro z wz _ _ _))
  refine wpList_nil ?_
  unfold onlyN
  refine hK_.out _ _ inferInstance (fun _ => ?_)
  clear hK_ K_
  try simp only [Act.put, sA]; try simp only [sB, sC]
  refine' takeH (i := 7) (v := _) rfl (by kernel_rfl) (by kernel_rfl) (by kernel_rfl) (fun _ _ _ h => h) (yields_of (by rfl) (fun w' _ => ?_)) inferInstance ?_
  rotate_left
  · (go_simp; try with_reducible rfl)
  try simp only [Act.put, sA]; try simp only [sB, sC]
  refine wpAnyH_done (by kernel_rfl) ?_ _
  have hR6 : HB wzr zr 73 (rpL sd (.pointer (some ⟨z0, 0, none⟩)) (.pointer (some ⟨z1, 0, none⟩)) zeroH 1 0 rpTl).toArray := inferInstance
  have s0 : w.heap.size ≤ wzs.heap.size := hnw.out.size
  have s1 : wzs.heap.size ≤ wd.heap.size := (inferInstance : SzLe wzs wd).out
  have s5 : wd.heap.size ≤ w5.heap.size := st5.chg.size
  have s6 : w5.heap.size ≤ w6.heap.size := st6.chg.size
  have b0 := hz0.out
  have b1 := hz1.out
  have l0 := hk0.lt
  have l1 := hk1.lt
  have br : w6.heap.size ≤ zr := Nat.le_of_eq (inferInstance : Born w6 zr).eq.symm
  have o1 : OffB (only z1) zr := ⟨fun e => by have e' : zr = z1 := e; omega⟩
  have o2 : OffB (only zr) z0 := ⟨fun e => by have e' : z0 = zr := e; omega⟩
  have o3 : OffB (only zr) z1 := ⟨fun e => by have e' : z1 = zr := e; omega⟩
  have o4 : OffB (only z1) z0 := ⟨fun e => by have e' : z0 = z1 := e; omega⟩
  have ab1 : Above w (only z1) := ⟨fun k h => by have h' : k = z1 := h; omega⟩
  have abr : Above w (only zr) := ⟨fun k h => by have h' : k = zr := h; omega⟩
  have hk0r : KeyAt wzr z0 (kSeed sd 0) 0 := inferInstance
  have hk1r : KeyAt wzr z1 (kSeed sd 1) 0 := inferInstance
  have nwr : Nw w wzr := inferInstance
  have HPUT := Lib.hid (rp_put34 sd (.pointer (some ⟨z0, 0, none⟩)) (.pointer (some ⟨z1, 0, none⟩)) zeroH (pubS (kSeed sd 1)) 1 0 rpTl)
  have HK34 := Lib.hid (rp_k34 sd (.pointer (some ⟨z0, 0, none⟩)) (.pointer (some ⟨z1, 0, none⟩)) zeroH 1 0 rpTl rfl)
  have HN : Hid (w.heap.size ≤ zr ∧ w.heap.size ≤ z0 ∧ w.heap.size ≤ z1 ∧ z0 ≠ zr ∧ z1 ≠ zr ∧ z0 ≠ z1) := Lib.hid ⟨by omega, by omega, by omega, by omega, by omega, by omega⟩
  clear hk0 hk1 st5 st6 hz0 hz1 s0 s1 s5 s6 b0 b1 l0 l1 br hS hsl
  go_wp2_with (first | ((with_reducible apply (wpl_loadcellN (k := 33))); (exact rfl); (exact hR6); (exact rp_33 _ _ _ _ _ _ _)) | ((with_reducible apply wpl_box_agg); (exact rfl); intro z wz _ _ _) | ((with_reducible apply wpl_box_int); (exact rfl); intro z wz _ _ _) | ((with_reducible apply wpl_box_slice); (exact rfl); intro z wz _ _ _) | ((with_reducible apply wpl_box_str); (exact rfl); intro z wz _ _ _) | ((with_reducible apply wpl_box_bool); (exact rfl); intro z wz _ _ _) | ((with_reducible apply wpl_box_ptr); (exact rfl); intro z wz _ _ _) | ((with_reducible apply wpl_loadrow); (exact rfl); infer_instance; infer_instance; (first | (with_reducible assumption) | (with_reducible exact H32.size _) | kernel_rfl)) | ((with_reducible apply wpl_loadcellN); (exact rfl); infer_instance; (exact rfl)) | ((with_reducible apply wpl_storerow); (exact rfl); (exact rfl); infer_instance; infer_instance; (first | (with_reducible assumption) | (with_reducible exact H32.size _) | kernel_rfl); (first | (with_reducible assumption) | (with_reducible exact H32.size _) | kernel_rfl); (first | (with_reducible exact u8s_one _) | (with_reducible assumption) | kernel_rfl); intro ws _ _) | ((with_reducible apply wpl_storecell); (exact rfl); (exact rfl); infer_instance; (exact rfl); (first | (with_reducible assumption) | omega | (focus (simp; done)) | (focus (simp; omega; done)) | decide); intro ws _ _))
  refine (kpublic_calls (zk := z1) (seed := kSeed sd 1) (used := 0)).mono ?_
  rintro e w7 ⟨rfl, st7, hk7⟩
  have hR7 : HB w7 zr 73 (rpL sd (.pointer (some ⟨z0, 0, none⟩)) (.pointer (some ⟨z1, 0, none⟩)) zeroH 1 0 rpTl).toArray := inferInstance
  have hk07 : KeyAt w7 z0 (kSeed sd 0) 0 := inferInstance
  have nw7 : Nw w w7 := inferInstance
  clear hR6 hk0r hk1r
  go_wp2_with (first | ((with_reducible apply wpl_storepart); (exact rfl); (exact rfl); (exact hR7); infer_instance; (exact H32.size _); (decide); (exact HK34.out); (exact (u8s_one _)); (exact HPUT.out); intro wp stp htp) | ((with_reducible apply wpl_box_agg); (exact rfl); intro z wz _ _ _) | ((with_reducible apply wpl_box_int); (exact rfl); intro z wz _ _ _) | ((with_reducible apply wpl_box_slice); (exact rfl); intro z wz _ _ _) | ((with_reducible apply wpl_box_str); (exact rfl); intro z wz _ _ _) | ((with_reducible apply wpl_box_bool); (exact rfl); intro z wz _ _ _) | ((with_reducible apply wpl_box_ptr); (exact rfl); intro z wz _ _ _) | ((with_reducible apply wpl_loadrow); (exact rfl); infer_instance; infer_instance; (first | (with_reducible assumption) | (with_reducible exact H32.size _) | kernel_rfl)) | ((with_reducible apply wpl_loadcellN); (exact rfl); infer_instance; (exact rfl)) | ((with_reducible apply wpl_storerow); (exact rfl); (exact rfl); infer_instance; infer_instance; (first | (with_reducible assumption) | (with_reducible exact H32.size _) | kernel_rfl); (first | (with_reducible assumption) | (with_reducible exact H32.size _) | kernel_rfl); (first | (with_reducible exact u8s_one _) | (with_reducible assumption) | kernel_rfl); intro ws _ _) | ((with_reducible apply wpl_storecell); (exact rfl); (exact rfl); infer_instance; (exact rfl); (first | (with_reducible assumption) | omega | (focus (simp; done)) | (focus (simp; omega; done)) | decide); intro ws _ _))
  have k0 : KeyAt wp z0 (kSeed sd 0) 0 := inferInstance
  have k1 : KeyAt wp z1 (kSeed sd 1) 0 := inferInstance
  go_ret
  exact ⟨zr, z0, z1, rfl, stepN, HN, htp, k0, k1⟩
end Go.Proofs.YteieielodooglaaGreat
