/- RsE, RlE -/
import Derived.Test.YtgjnjhhhbkidbaaGreatUcRsD
import Derived.Test.YtgjnjhhhbkidbaaGreatUcRoH
section
open Go Go.RowKit
namespace Go.Proofs.YtgjnjhhhbkidbaaGreat
theorem rp_32 (sd : H32) (p0 p1 : Value) (f : H32) (g v : Int) (tl : List Value) : nth (rpL sd p0 p1 f g v tl).toArray.toList 32 = some p0 := by
 rw [← nth_get]
 exact rp_get32 sd p0 p1 f g v tl 0
theorem rp_f (sd : H32) (p0 p1 : Value) (f : H32) (g v : Int) (tl : List Value) : ((rpL sd p0 p1 f g v tl).toArray.toList.drop 34).take 32 = bs f.l := by
 show ((rpL sd p0 p1 f g v tl).drop 34).take 32 = _
 rw [rp_cut34, List.drop_left' (rp_pre sd p0 p1), List.take_left' (bsl f)]
theorem run_rootV (v e : Int) (w : World) : (Instr.build 94 #[(0, .int .i64 v), (1, .int .i64 e)]).run Tryz.prog w = .ok (.agg (rtL v e noK).toArray) w := by kernel_rfl
theorem gt_setK (K : List KR) (k : Nat) (r : KR) (h : k < K.length) : gt (K.set k r) k = r := by simp [gt, List.getD_eq_getElem?_getD, h]
theorem gt_setK2 (K : List KR) (k j : Nat) (r : KR) (h : j ≠ k) : gt (K.set k r) j = gt K j := by
 unfold gt
 rw [List.getD_eq_getElem?_getD, List.getD_eq_getElem?_getD, List.getElem?_set, if_neg (fun e => h e.symm)]
theorem rt_2 (v e : Int) (K : List KR) (h : 0 < K.length) : nth (rtL v e K).toArray.toList 2 = some (.slice (gt K 0).A (gt K 0).n (gt K 0).c) := by
 cases K with
 | nil => cases h
 | cons k K => rfl
set_option maxRecDepth 100000 in
set_option maxHeartbeats 3200000 in
theorem rootOf_calls (v : Int) (root onl : H32) (w : World) :
    Calls Tryz.prog 36 #[.int .i64 v, .agg (u8s root.l), .agg (u8s onl.l)] w fun e w' => ∃ K : List KR, e = .returned (.agg (rtL v 1073741824 K).toArray) ∧ K.length = 4 ∧ Step nowhere w w' := by
 have kbo : ∀ w, _ := run_oneHW onl
 have kbv := run_rootV v 1073741824
 go_enter Tryz.func36, Tryz.ntmps36
 go_wp2_with (first | ((with_reducible apply wpl_build); exact kbv _) | ((with_reducible apply (wpl_box_agg (dst := some 4))); exact rfl; intro zr wzr _ _ _) | ((with_reducible apply (wpl_box_agg (dst := some 5))); exact rfl; intro zn wzn _ _ _) | ((with_reducible apply (wpl_alloc (dst := some 6))); intro zo wzo _ _ _) | ((with_reducible apply (wpl_alloc (dst := some 7))); intro z7 wz7 _ _ _) | ((with_reducible apply wpl_storerow); exact rfl; exact rfl; infer_instance; infer_instance; (first | (with_reducible assumption) | (with_reducible exact H32.size _) | kernel_rfl); (first | (with_reducible assumption) | (with_reducible exact H32.size _) | kernel_rfl); (first | (with_reducible exact u8s_one _) | (with_reducible assumption) | kernel_rfl); intro ws _ _))
 have kbk : ∀ (a : Option Addr) (w : World), (Instr.build 91 #[(0, .slice a 1 1), (1, .int .i64 1)]).run Tryz.prog w = .ok (.agg (RowC.enc (⟨a, 1, 1, [onl], 1⟩ : KR)).toArray) w := fun a w => run_keysKR ⟨a, 1, 1, [onl], 1⟩ w
 have hbr : HB ws zr 23 (u8s root.l) := inferInstance
 have hbn : HB ws zn 23 (u8s onl.l) := inferInstance
 have hbo : HB ws zo 94 (rtL 0 0 noK).toArray := inferInstance
 have hb7 : HB ws z7 94 (rtL v 1073741824 noK).toArray := inferInstance
 have nws : Nw w ws := ⟨(stepN (w0 := w) (w := ws)).chg⟩
 have e1 : zr = w.heap.size := (inferInstance : Born w zr).eq
 have e2 : zn = wzr.heap.size := (inferInstance : Born wzr zn).eq
 have e3 : zo = wzn.heap.size := (inferInstance : Born wzn zo).eq
 have e4 : z7 = wzo.heap.size := (inferInstance : Born wzo z7).eq
 have l1 : zr < wzr.heap.size := (inferInstance : HB wzr zr 23 (u8s root.l)).out.lt
 have l2 : zn < wzn.heap.size := (inferInstance : HB wzn zn 23 (u8s onl.l)).out.lt
 have l3 : zo < wzo.heap.size := (inferInstance : HB wzo zo 94 (rtL 0 0 noK).toArray).out.lt
 have s1 : w.heap.size ≤ wzr.heap.size := (inferInstance : SzLe w wzr).out
 have s2 : wzr.heap.size ≤ wzn.heap.size := (inferInstance : SzLe wzr wzn).out
 have s3 : wzn.heap.size ≤ wzo.heap.size := (inferInstance : SzLe wzn wzo).out
 have HD : Hid (zr ≠ z7 ∧ zn ≠ z7 ∧ zo ≠ z7 ∧ zo ≠ zr ∧ zo ≠ zn ∧ w.heap.size ≤ z7 ∧ w.heap.size ≤ zo) := Lib.hid ⟨by omega, by omega, by omega, by omega, by omega, by omega, by omega⟩
 have o7r : OffB (only z7) zr := ⟨HD.out.1⟩
 have o7n : OffB (only z7) zn := ⟨HD.out.2.1⟩
 have o7o : OffB (only z7) zo := ⟨HD.out.2.2.1⟩
 have a7 : Above w (only z7) := ⟨fun x h => by have h' : x = z7 := h; have := HD.out.2.2.2.2.2.1; omega⟩
 clear e1 e2 e3 e4 l1 l2 l3 s1 s2 s3
 go_loopw [11] (fun iv wr => ∃ (k : Nat) (K : List KR), k ≤ 4 ∧ iv = .int .i64 (k : Int) ∧ K.length = 4 ∧ Nw w wr ∧ HB wr zr 23 (u8s root.l) ∧ HB wr zn 23 (u8s onl.l) ∧ HB wr zo 94 (rtL 0 0 noK).toArray ∧ HB wr z7 94 (rtL v 1073741824 K).toArray ∧ Hid (0 < k → ∃ z0, gt K 0 = ⟨some ⟨z0, 0, none⟩, 1, 1, [onl], 1⟩ ∧ HB wr z0 23 (u8s onl.l) ∧ z0 ≠ z7 ∧ z0 ≠ zo ∧ z0 ≠ zr ∧ w.heap.size ≤ z0)) (fun iv _ => 4 - (intOf iv).toNat)
 case atStart => exact ⟨0, noK, Nat.zero_le _, rfl, rfl, nws, hbr, hbn, hbo, hb7, Lib.hid (fun h => absurd h (by decide))⟩
 case round =>
  clear nws hbr hbn hbo hb7
  obtain ⟨k, K, hk, rfl, hK, nwr, hbr, hbn, hbo, hb7, hz⟩ := hrel
  by_cases hlt : k < 4
  · have hltI : (k : Int) < 4 := by omega
    have hkl : k < K.length := by omega
    go_wp2_with (first | ((with_reducible apply (stop_dst (dst := some 16))); (try simp only [Act.put, sA, sB, sC]); ((with_reducible apply (wpl_bslice (dst := some 16))); exact kbo _; intro zb wb _ _ _)) | ((with_reducible apply wpl_build); exact kbk _ _) | ((with_reducible apply (wpl_indexRK (i := k) (m := 4))); exact rfl; exact rfl; exact Tryz.underlying92; (kernel_rfl); exact hlt) | ((with_reducible apply (wpl_storeRK (i := k))); exact rfl; exact rfl; infer_instance; infer_instance; exact hkl; intro wx stx hbx) | ((with_reducible apply wpl_loadrow); exact rfl; infer_instance; infer_instance; (first | (with_reducible assumption) | (with_reducible exact H32.size _) | kernel_rfl)))
    have hzb : wr.heap.size ≤ zb := Nat.le_of_eq (inferInstance : Born wr zb).eq.symm
    have hrl := hbr.out.lt
    have hol := hbo.out.lt
    have h7l := hb7.out.lt
    have hsw := nwr.out.size
    have nwx : Nw w wx := inferInstance
    refine ⟨⟨k + 1, K.set k ⟨some ⟨zb, 0, none⟩, 1, 1, [onl], 1⟩, by omega, by go_num, by rw [List.length_set]; exact hK, nwx, inferInstance, inferInstance, inferInstance, hbx, Lib.hid (fun _ => ?_)⟩, by simp [intOf]; omega⟩
    by_cases h0 : k = 0
    · subst h0
      have o7b : OffB (only z7) zb := ⟨fun e => by have e' : zb = z7 := e; omega⟩
      exact ⟨zb, gt_setK K 0 _ hkl, inferInstance, by omega, by omega, by omega, by omega⟩
    · obtain ⟨z0, hg0, hb0, d1, d2, d3, d4⟩ := hz.out (by omega)
      have o70 : OffB (only z7) z0 := ⟨d1⟩
      exact ⟨z0, by rw [gt_setK2 K k 0 _ (fun e => h0 e.symm)]; exact hg0, inferInstance, d1, d2, d3, d4⟩
  · have hltI : ¬ (k : Int) < 4 := by omega
    have hk4 : 0 < k := by omega
    have hkl0 : 0 < K.length := by omega
    obtain ⟨z0, hg0, hb0, d1, d2, d3, d4⟩ := hz.out hk4
    have hc2 : nth (rtL v 1073741824 K).toArray.toList 2 = some (.slice (some ⟨z0, 0, none⟩) 1 1) := by rw [rt_2 _ _ _ hkl0, hg0]
    have o0r : OffB (only z0) zr := ⟨fun e => d3 (show zr = z0 from e).symm⟩
    have o0o : OffB (only z0) zo := ⟨fun e => d2 (show zo = z0 from e).symm⟩
    have o07 : OffB (only z0) z7 := ⟨fun e => d1 (show z7 = z0 from e).symm⟩
    have ooo : OffB (only zo) z7 := ⟨fun e => HD.out.2.2.1 (show z7 = zo from e).symm⟩
    have a0 : Above w (only z0) := ⟨fun x h => by have h' : x = z0 := h; omega⟩
    have ao : Above w (only zo) := ⟨fun x h => by have h' : x = zo := h; have := HD.out.2.2.2.2.2.2; omega⟩
    have hsz := rtL_len v 1073741824 K hK
    have hone := rtL_one v 1073741824 K
    have hrH : HR wr (some ⟨z0, 0, none⟩) (cellsOf [onl]) := ⟨by
     have h9 := hb0.rdL
     have e9 : cellsOf [onl] = (u8s onl.l).toList := by
      show bs onl.l ++ [] = _
      rw [List.append_nil]
      rfl
     rw [e9]
     exact h9⟩
    clear hg0
    go_wp2_with (first | ((with_reducible apply (wpl_loadcellN (k := 2))); exact rfl; exact hb7; exact hc2) | ((with_reducible apply wpl_loadrow); exact rfl; infer_instance; infer_instance; (first | (with_reducible assumption) | (with_reducible exact H32.size _) | kernel_rfl)) | ((with_reducible apply wpl_storerow); exact rfl; exact rfl; infer_instance; infer_instance; (first | (with_reducible assumption) | (with_reducible exact H32.size _) | kernel_rfl); (first | (with_reducible assumption) | (with_reducible exact H32.size _) | kernel_rfl); (first | (with_reducible exact u8s_one _) | (with_reducible assumption) | kernel_rfl); intro ws _ _))
    exact ret_row rfl rfl (n := 10) hsz rfl ⟨K, rfl, hK, stepN⟩
def two (a b : Nat) : Nat → Prop := fun x => x = a ∨ x = b
instance Sub.twoA (w : World) (a b : Nat) : Sub w (only a) (two a b) := ⟨fun _ _ h => .inl h⟩
instance Sub.twoB (w : World) (a b : Nat) : Sub w (only b) (two a b) := ⟨fun _ _ h => .inr h⟩
set_option maxRecDepth 100000 in
set_option maxHeartbeats 3200000 in
theorem rootR_calls {sd f : H32} {p1 : Value} {g v : Int} {tl : List Value} {zr zk : Nat} {seed : H32} {used : Int} {w : World} [hb : HB w zr 73 (rpL sd (.pointer (some ⟨zk, 0, none⟩)) p1 f g v tl).toArray] [hk : KeyAt w zk seed used] (hne : zk ≠ zr) :
    Calls Tryz.prog 37 #[.pointer (some ⟨zr, 0, none⟩)] w fun e w' => ∃ K : List KR, e = .returned (.agg (rtL 1 1073741824 K).toArray) ∧ K.length = 4 ∧ Step (only zk) w w' ∧ KeyAt w' zk seed used := by
 have hzk := hk.lt
 have hzr := hb.out.lt
 go_enter Tryz.func37, Tryz.ntmps37
 go_wp2_with (first | ((with_reducible apply (wpl_alloc (dst := some 2))); intro zo wzo _ _ _))
 have hzo : w.heap.size ≤ zo := Nat.le_of_eq (inferInstance : Born w zo).eq.symm
 have hbo : HB wzo zo 94 (rtL 0 0 noK).toArray := inferInstance
 have hkr : KeyAt wzo zk seed used := inferInstance
 have hbr : HB wzo zr 73 (rpL sd (.pointer (some ⟨zk, 0, none⟩)) p1 f g v tl).toArray := inferInstance
 have otr : OffB (two zk zo) zr := ⟨fun h => by rcases h with h | h <;> omega⟩
 have oko : OffB (only zk) zo := ⟨fun e => by have e' : zo = zk := e; omega⟩
 have ook : OffB (only zo) zk := ⟨fun e => by have e' : zk = zo := e; omega⟩
 refine wp_region_N ((two zk zo)) (by kernel_rfl) (fun wd _ _ => ?_)
 refine' tk 0 _ rfl (by kernel_rfl) (by kernel_rfl) (by kernel_rfl) (fun _ _ _ h => h) (yo (by rfl) fun w' _ => ?_) inferInstance ?_
 rotate_left
 · (go_simp; try with_reducible rfl)
 try simp only [Act.put, sA, sB, sC]
 refine' tk 1 _ rfl (by kernel_rfl) (by kernel_rfl) (by kernel_rfl) (fun _ _ _ h => h) (yo (by rfl) fun w' _ => ?_) inferInstance ?_
 rotate_left
 · (go_simp; try with_reducible rfl)
 try simp only [Act.put, sA, sB, sC]
 refine' tk 2 _ rfl (by kernel_rfl) (by kernel_rfl) (by kernel_rfl) (fun _ _ _ h => h) (yo (by rfl) fun w' _ => ?_) inferInstance ?_
 rotate_left
 · (go_simp; try with_reducible rfl)
 try simp only [Act.put, sA, sB, sC]
 refine' tk 3 _ rfl (by kernel_rfl) (by kernel_rfl) (by kernel_rfl) (fun _ _ _ h => h) (yo (by rfl) fun w' _ => ?_) inferInstance ?_
 rotate_left
 · ((apply (ev_loadcellN (k := 32))); exact rfl; infer_instance; infer_instance; exact rp_32 _ _ _ _ _ _ _)
 try simp only [Act.put, sA, sB, sC]
 refine' tk 5 _ rfl (by kernel_rfl) (by kernel_rfl) (by kernel_rfl) (fun _ _ _ h => h) (yo (by rfl) fun w' _ => ?_) inferInstance ?_
 rotate_left
 · (go_simp; try with_reducible rfl)
 try simp only [Act.put, sA, sB, sC]
 refine' tk 6 _ rfl (by kernel_rfl) (by kernel_rfl) (by kernel_rfl) (fun _ _ _ h => h) (yo (by rfl) fun w' _ => ?_) inferInstance ?_
 rotate_left
 · (go_simp; try with_reducible rfl)
 try simp only [Act.put, sA, sB, sC]
 refine' tk 7 _ rfl (by kernel_rfl) (by kernel_rfl) (by kernel_rfl) (fun _ _ _ h => h) (yo (by rfl) fun w' _ => ?_) inferInstance ?_
 rotate_left
 · (go_simp; try with_reducible rfl)
 try simp only [Act.put, sA, sB, sC]
 refine' tk 8 _ rfl (by kernel_rfl) (by kernel_rfl) (by kernel_rfl) (fun _ _ _ h => h) (yo (by rfl) fun w' _ => ?_) inferInstance ?_
 rotate_left
 · ((apply (ev_loadpart (k := 34) (n := 32))); exact rfl; infer_instance; infer_instance; (decide); exact rp_f _ _ _ _ _ _ _; (rw [bs_length, H32.len]))
 try simp only [Act.put, sA, sB, sC]
 refine goH (i := 4) (by kernel_rfl) rfl (fun K_ hK_ => ?_)
 go_simp
 refine (kpublic_calls (zk := zk) (seed := seed) (used := used)).mono ?_
 rintro e w5 ⟨rfl, st5, hk5⟩
 refine hK_.out _ _ inferInstance (fun _ => ?_)
 clear hK_ K_
 try simp only [Act.put, sA, sB, sC]
 refine goH (i := 9) (by kernel_rfl) rfl (fun K_ hK_ => ?_)
 go_simp
 refine (rootOf_calls 1 _ _ _).mono ?_
 rintro e w6 ⟨K, rfl, hK, st6⟩
 have hsz : Hid ((rtL 1 1073741824 K).toArray.size = 10) := Lib.hid (rtL_len _ _ K hK)
 refine hK_.out _ _ inferInstance (fun _ => ?_)
 clear hK_ K_
 try simp only [Act.put, sA, sB, sC]
 refine goH (i := 10) (by kernel_rfl) rfl (fun K_ hK_ => ?_)
 rw [if_pos (by kernel_rfl)]
 refine wpr_of_list ?_
 (first | ((with_reducible apply wpl_storerow); exact rfl; exact rfl; infer_instance; infer_instance; exact hsz.out; exact (rtL_len 0 0 noK rfl); exact rtL_one _ _ _; intro wz stz hz) | ((with_reducible apply wpl_storerow); exact rfl; exact rfl; infer_instance; infer_instance; (first | (with_reducible assumption) | (with_reducible exact H32.size _) | kernel_rfl); (first | (with_reducible assumption) | (with_reducible exact H32.size _) | kernel_rfl); (first | (with_reducible exact u8s_one _) | (with_reducible assumption) | kernel_rfl); intro ws _ _) | ((with_reducible apply wpl_storecell); exact rfl; exact rfl; infer_instance; exact rfl; (first | (with_reducible assumption) | omega | (focus (simp; done)) | (focus (simp; omega; done)) | decide); intro ws _ _) | ((with_reducible apply (wpl_storehash (t := 23))); exact rfl; exact rfl; infer_instance; infer_instance; (first | (with_reducible assumption) | omega | (focus (simp; done)) | (focus (simp; omega; done)) | decide); intro ws _ _) | ((with_reducible apply (wpl_storebyteH (t := 5))); exact rfl; exact rfl; infer_instance; (first | (with_reducible assumption) | omega); (first | (with_reducible assumption) | omega); (first | (constructor <;> omega) | exact xor_u8_in _ _); intro ws _ _) | ((with_reducible apply (wpl_storeint (t := 3))); exact rfl; exact rfl; infer_instance; (first | (with_reducible assumption) | omega); intro ws _ _) | ((with_reducible apply (wpl_storebyte (t := 5))); exact rfl; exact rfl; infer_instance; (first | (with_reducible assumption) | omega | (focus (simp; done)) | (focus (simp; omega; done)) | decide); (constructor <;> omega); intro ws _ _))
 refine wpList_nil ?_
 unfold onlyN
 refine hK_.out _ _ inferInstance (fun _ => ?_)
 clear hK_ K_
 try simp only [Act.put]
 refine wpAnyH_done (by kernel_rfl) ?_ _
 all_goals
  have hkw : KeyAt wz zk seed used := inferInstance
  have hcw : Chg (two zk zo) wzo wz := (inferInstance : Ch (two zk zo) wzo wz).out
  have hcs : Chg nowhere w wzo := (stepN (w0 := w) (w := wzo)).chg
  have hfin : Chg (only zk) w wz := (hcs.mono (T := only zk) (fun _ _ h => h.elim)).trans hcw (fun x hx h => by
   rcases h with h | h
   · exact h
   · omega)
  go_wp2_with fail
  exact ret_row rfl rfl (n := 10) hsz.out rfl ⟨K, rfl, hK, ⟨hfin⟩, hkw⟩
end Go.Proofs.YtgjnjhhhbkidbaaGreat
end
section
open Go Go.RowKit
namespace Go.Proofs.YtgjnjhhhbkidbaaGreat
/-- the row of one key -/
def kr1 (z : Nat) (h : H32) : KR := ⟨some ⟨z, 0, none⟩, 1, 1, [h], 1⟩
/-- a root's keys: the root's own, and the one of all other roles -/
def roK (root onl : H32) : List (List H32 × Int) := [([root], 1), ([onl], 1), ([onl], 1), ([onl], 1)]
end Go.Proofs.YtgjnjhhhbkidbaaGreat
end
