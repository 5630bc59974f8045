/- KyE, RpK, RpC, RsA -/
import Derived.Test.YteieielodooglaaGreatTnQmR
import Derived.Test.YteieielodooglaaGreatTnRpB
import Derived.Test.YteieielodooglaaGreatTnTgL
section
open Go Go.RowKit
namespace Go.Proofs.YteieielodooglaaGreat
set_option maxRecDepth 100000 in
set_option maxHeartbeats 1600000 in
theorem leaves_calls {zk : Nat} {seed : H32} {used : Int} {w : World} [hk : KeyAt w zk seed used] :
    Calls Tryz.prog 59 #[.pointer (some ⟨zk, 0, none⟩)] w fun e w' => e = .returned (.slice (some ⟨zk, 34, none⟩) 16 16) ∧ Step (only zk) w w' ∧ KeyAt w' zk seed used ∧ HR w' (some ⟨zk, 34, none⟩) (cellsOf (leavesS seed)) := by
  obtain ⟨gr, tree, hl, hg, hb⟩ := hk.out
  cases gr with
  | true =>
    obtain rfl := hg rfl
    have HG := Lib.hid hg
    have HL := Lib.hid hl
    clear hk hg hl
    go_enter Tryz.func59, Tryz.ntmps59
    go_wp2_with (first | ((with_reducible apply (wpl_kGrown (t := 4))); (exact rfl); infer_instance; infer_instance) | ((with_reducible apply (wpl_sliceAr (t := 123) (s := 32))); (exact rfl); (exact Tryz.underlying123); (kernel_rfl)) | ((with_reducible apply wpl_loadrow); (exact rfl); infer_instance; infer_instance; (first | (with_reducible assumption) | (with_reducible exact H32.size _) | kernel_rfl)) | ((with_reducible apply wpl_loadcellN); (exact rfl); infer_instance; (exact rfl)) | ((with_reducible apply wpl_storerow); (exact rfl); (exact rfl); infer_instance; infer_instance; (first | (with_reducible assumption) | (with_reducible exact H32.size _) | kernel_rfl); (first | (with_reducible assumption) | (with_reducible exact H32.size _) | kernel_rfl); (first | (with_reducible exact u8s_one _) | (with_reducible assumption) | kernel_rfl); intro ws _ _) | ((with_reducible apply wpl_storecell); (exact rfl); (exact rfl); infer_instance; (exact rfl); (first | (with_reducible assumption) | omega | (focus (simp; done)) | (focus (simp; omega; done)) | decide); intro ws _ _) | ((with_reducible apply wpl_sl_lh); (exact rfl); (exact rfl); (exact rfl); infer_instance; (first | (with_reducible assumption) | omega); (first | (with_reducible assumption) | omega)) | ((with_reducible apply wpl_sl_h); (exact rfl); (exact rfl); infer_instance; (first | (with_reducible assumption) | omega)) | ((with_reducible apply wpl_sl_l); (exact rfl); (exact rfl); infer_instance; (first | (with_reducible assumption) | omega)) | ((with_reducible apply wpl_indexH); (exact rfl); (exact rfl); infer_instance; infer_instance; (first | (with_reducible assumption) | omega); (first | (with_reducible assumption) | omega); (first | (with_reducible assumption) | omega)) | ((with_reducible apply wpl_indexH'); (exact rfl); (exact rfl); infer_instance; infer_instance; (first | (with_reducible assumption) | omega); (first | (with_reducible assumption) | omega); (first | (with_reducible assumption) | omega)) | ((with_reducible apply (wpl_loadhash (t := 23))); (exact rfl); infer_instance; infer_instance; (first | (with_reducible assumption) | omega)) | ((with_reducible apply wpl_sliceH); (exact rfl); (exact Tryz.underlying23); (kernel_rfl); infer_instance; (first | (with_reducible assumption) | omega)) | ((with_reducible apply (wpl_storehash (t := 23))); (exact rfl); (exact rfl); infer_instance; infer_instance; (first | (with_reducible assumption) | omega | (focus (simp; done)) | (focus (simp; omega; done)) | decide); intro ws _ _) | ((with_reducible apply (wpl_loadint (t := 3))); (exact rfl); infer_instance; infer_instance; (first | (with_reducible assumption) | omega)) | ((with_reducible apply (wpl_loadbyte (t := 5))); (exact rfl); infer_instance; infer_instance; (first | (with_reducible assumption) | omega)) | ((with_reducible apply (wpl_storeint (t := 3))); (exact rfl); (exact rfl); infer_instance; (first | (with_reducible assumption) | omega); intro ws _ _) | ((with_reducible apply (wpl_storebyte (t := 5))); (exact rfl); (exact rfl); infer_instance; (first | (with_reducible assumption) | omega | (focus (simp; done)) | (focus (simp; omega; done)) | decide); (constructor <;> omega); intro ws _ _))
    go_ret
    exact ⟨rfl, stepC, ⟨true, leavesS seed, HL.out, fun _ => rfl, hb⟩, HR.keyTree hb⟩
  | false =>
    have HL := Lib.hid hl
    clear hk hg hl
    go_enter Tryz.func59, Tryz.ntmps59
    go_wp2_with (first | ((with_reducible apply (wpl_kGrown (t := 4))); (exact rfl); infer_instance; infer_instance) | ((with_reducible apply wpl_loadrow); (exact rfl); infer_instance; infer_instance; (first | (with_reducible assumption) | (with_reducible exact H32.size _) | kernel_rfl)) | ((with_reducible apply wpl_loadcellN); (exact rfl); infer_instance; (exact rfl)) | ((with_reducible apply wpl_storerow); (exact rfl); (exact rfl); infer_instance; infer_instance; (first | (with_reducible assumption) | (with_reducible exact H32.size _) | kernel_rfl); (first | (with_reducible assumption) | (with_reducible exact H32.size _) | kernel_rfl); (first | (with_reducible exact u8s_one _) | (with_reducible assumption) | kernel_rfl); intro ws _ _) | ((with_reducible apply wpl_storecell); (exact rfl); (exact rfl); infer_instance; (exact rfl); (first | (with_reducible assumption) | omega | (focus (simp; done)) | (focus (simp; omega; done)) | decide); intro ws _ _) | ((with_reducible apply wpl_sl_lh); (exact rfl); (exact rfl); (exact rfl); infer_instance; (first | (with_reducible assumption) | omega); (first | (with_reducible assumption) | omega)) | ((with_reducible apply wpl_sl_h); (exact rfl); (exact rfl); infer_instance; (first | (with_reducible assumption) | omega)) | ((with_reducible apply wpl_sl_l); (exact rfl); (exact rfl); infer_instance; (first | (with_reducible assumption) | omega)) | ((with_reducible apply wpl_indexH); (exact rfl); (exact rfl); infer_instance; infer_instance; (first | (with_reducible assumption) | omega); (first | (with_reducible assumption) | omega); (first | (with_reducible assumption) | omega)) | ((with_reducible apply wpl_indexH'); (exact rfl); (exact rfl); infer_instance; infer_instance; (first | (with_reducible assumption) | omega); (first | (with_reducible assumption) | omega); (first | (with_reducible assumption) | omega)) | ((with_reducible apply (wpl_loadhash (t := 23))); (exact rfl); infer_instance; infer_instance; (first | (with_reducible assumption) | omega)) | ((with_reducible apply wpl_sliceH); (exact rfl); (exact Tryz.underlying23); (kernel_rfl); infer_instance; (first | (with_reducible assumption) | omega)) | ((with_reducible apply (wpl_storehash (t := 23))); (exact rfl); (exact rfl); infer_instance; infer_instance; (first | (with_reducible assumption) | omega | (focus (simp; done)) | (focus (simp; omega; done)) | decide); intro ws _ _) | ((with_reducible apply (wpl_loadint (t := 3))); (exact rfl); infer_instance; infer_instance; (first | (with_reducible assumption) | omega)) | ((with_reducible apply (wpl_loadbyte (t := 5))); (exact rfl); infer_instance; infer_instance; (first | (with_reducible assumption) | omega)) | ((with_reducible apply (wpl_storeint (t := 3))); (exact rfl); (exact rfl); infer_instance; (first | (with_reducible assumption) | omega); intro ws _ _) | ((with_reducible apply (wpl_storebyte (t := 5))); (exact rfl); (exact rfl); infer_instance; (first | (with_reducible assumption) | omega | (focus (simp; done)) | (focus (simp; omega; done)) | decide); (constructor <;> omega); intro ws _ _))
    go_loopw [9] (fun kv wr => ∃ (k : Nat) (tr : List H32), k ≤ 16 ∧ kv = .int .i64 (k : Int) ∧ Hid (tr.length = 16) ∧ Hid (∀ j, j < k → hget tr j = publicS seed (j : Int)) ∧ Step (only zk) w wr ∧ HB wr zk 125 (keyL seed used false tr).toArray) (fun kv _ => 16 - (intOf kv).toNat)
    case atStart => exact ⟨0, tree, by decide, rfl, HL, Lib.hid (fun j hj => by omega), stepC, inferInstance⟩
    case round =>
      obtain ⟨k, tr, hk, rfl, HT, HJ, _, hbk⟩ := hrel
      have hka : KeyAt wr zk seed used := ⟨false, tr, HT.out, (fun h => by cases h), hbk⟩
      by_cases hlt : k < 16
      · have hltI : (k : Int) < 16 := by omega
        go_wp2_with (first | ((with_reducible apply wpl_loadrow); (exact rfl); infer_instance; infer_instance; (first | (with_reducible assumption) | (with_reducible exact H32.size _) | kernel_rfl)) | ((with_reducible apply wpl_loadcellN); (exact rfl); infer_instance; (exact rfl)) | ((with_reducible apply wpl_storerow); (exact rfl); (exact rfl); infer_instance; infer_instance; (first | (with_reducible assumption) | (with_reducible exact H32.size _) | kernel_rfl); (first | (with_reducible assumption) | (with_reducible exact H32.size _) | kernel_rfl); (first | (with_reducible exact u8s_one _) | (with_reducible assumption) | kernel_rfl); intro ws _ _) | ((with_reducible apply wpl_storecell); (exact rfl); (exact rfl); infer_instance; (exact rfl); (first | (with_reducible assumption) | omega | (focus (simp; done)) | (focus (simp; omega; done)) | decide); intro ws _ _) | ((with_reducible apply wpl_sl_lh); (exact rfl); (exact rfl); (exact rfl); infer_instance; (first | (with_reducible assumption) | omega); (first | (with_reducible assumption) | omega)) | ((with_reducible apply wpl_sl_h); (exact rfl); (exact rfl); infer_instance; (first | (with_reducible assumption) | omega)) | ((with_reducible apply wpl_sl_l); (exact rfl); (exact rfl); infer_instance; (first | (with_reducible assumption) | omega)) | ((with_reducible apply wpl_indexH); (exact rfl); (exact rfl); infer_instance; infer_instance; (first | (with_reducible assumption) | omega); (first | (with_reducible assumption) | omega); (first | (with_reducible assumption) | omega)) | ((with_reducible apply wpl_indexH'); (exact rfl); (exact rfl); infer_instance; infer_instance; (first | (with_reducible assumption) | omega); (first | (with_reducible assumption) | omega); (first | (with_reducible assumption) | omega)) | ((with_reducible apply (wpl_loadhash (t := 23))); (exact rfl); infer_instance; infer_instance; (first | (with_reducible assumption) | omega)) | ((with_reducible apply wpl_sliceH); (exact rfl); (exact Tryz.underlying23); (kernel_rfl); infer_instance; (first | (with_reducible assumption) | omega)) | ((with_reducible apply (wpl_storehash (t := 23))); (exact rfl); (exact rfl); infer_instance; infer_instance; (first | (with_reducible assumption) | omega | (focus (simp; done)) | (focus (simp; omega; done)) | decide); intro ws _ _) | ((with_reducible apply (wpl_loadint (t := 3))); (exact rfl); infer_instance; infer_instance; (first | (with_reducible assumption) | omega)) | ((with_reducible apply (wpl_loadbyte (t := 5))); (exact rfl); infer_instance; infer_instance; (first | (with_reducible assumption) | omega)) | ((with_reducible apply (wpl_storeint (t := 3))); (exact rfl); (exact rfl); infer_instance; (first | (with_reducible assumption) | omega); intro ws _ _) | ((with_reducible apply (wpl_storebyte (t := 5))); (exact rfl); (exact rfl); infer_instance; (first | (with_reducible assumption) | omega | (focus (simp; done)) | (focus (simp; omega; done)) | decide); (constructor <;> omega); intro ws _ _))
        refine wp_region_N ((only zk)) (by kernel_rfl) (fun wd _ _ => ?_)
        refine' takeH (i := 0) (v := _) rfl (by kernel_rfl) (by kernel_rfl) (by kernel_rfl) (fun _ _ _ h => h) (yields_of (by rfl) (fun w' _ => ?_)) inferInstance ?_
        rotate_left
        · (go_simp; try with_reducible rfl)
        try simp only [Act.put, sA]; try simp only [sB, sC]
        refine' takeH (i := 1) (v := _) rfl (by kernel_rfl) (by kernel_rfl) (by kernel_rfl) (fun _ _ _ h => h) (yields_of (by rfl) (fun w' _ => ?_)) inferInstance ?_
        rotate_left
        · (go_simp; try with_reducible rfl)
        try simp only [Act.put, sA]; try simp only [sB, sC]
        refine' takeH (i := 2) (v := _) rfl (by kernel_rfl) (by kernel_rfl) (by kernel_rfl) (fun _ _ _ h => h) (yields_of (by rfl) (fun w' _ => ?_)) inferInstance ?_
        rotate_left
        · (go_simp; try with_reducible rfl)
        try simp only [Act.put, sA]; try simp only [sB, sC]
        refine' takeH (i := 3) (v := _) rfl (by kernel_rfl) (by kernel_rfl) (by kernel_rfl) (fun _ _ _ h => h) (yields_of (by rfl) (fun w' _ => ?_)) inferInstance ?_
        rotate_left
        · (go_simp; try with_reducible rfl)
        try simp only [Act.put, sA]; try simp only [sB, sC]
        refine' takeH (i := 4) (v := _) rfl (by kernel_rfl) (by kernel_rfl) (by kernel_rfl) (fun _ _ _ h => h) (yields_of (by rfl) (fun w' _ => ?_)) inferInstance ?_
        rotate_left
        · (go_simp; try with_reducible rfl)
        try simp only [Act.put, sA]; try simp only [sB, sC]
        refine' takeH (i := 6) (v := _) rfl (by kernel_rfl) (by kernel_rfl) (by kernel_rfl) (fun _ _ _ h => h) (yields_of (by rfl) (fun w' _ => ?_)) inferInstance ?_
        rotate_left
        · (go_simp; try with_reducible rfl)
        try simp only [Act.put, sA]; try simp only [sB, sC]
        refine' takeH (i := 8) (v := _) rfl (by kernel_rfl) (by kernel_rfl) (by kernel_rfl) (fun _ _ _ h => h) (yields_of (by rfl) (fun w' _ => ?_)) inferInstance ?_
        rotate_left
        · (go_simp; try with_reducible rfl)
        try simp only [Act.put, sA]; try simp only [sB, sC]
        refine' takeH (i := 9) (v := _) rfl (by kernel_rfl) (by kernel_rfl) (by kernel_rfl) (fun _ _ _ h => h) (yields_of (by rfl) (fun w' _ => ?_)) inferInstance ?_
        rotate_left
        · (go_simp; try with_reducible rfl)
        try simp only [Act.put, sA]; try simp only [sB, sC]
        refine goH (i := 5) (by kernel_rfl) rfl (fun K_ hK_ => ?_)
        rw [if_pos (by kernel_rfl)]
        refine wpr_of_list ?_
        (first | ((with_reducible apply (wpl_kSeed (t := 23))); (exact rfl); infer_instance; infer_instance) | ((with_reducible apply (wpl_indexAr (t := 123) (s := 32))); (exact rfl); (exact rfl); (exact Tryz.underlying123); (kernel_rfl); (first | (with_reducible assumption) | omega)) | ((with_reducible apply (wpl_kPutT (t := 23))); (exact rfl); (exact rfl); infer_instance; infer_instance; (exact HT.out); (first | (with_reducible assumption) | omega); intro ws _ _) | ((with_reducible apply wpl_loadrow); (exact rfl); infer_instance; infer_instance; (first | (with_reducible assumption) | (with_reducible exact H32.size _) | kernel_rfl)) | ((with_reducible apply wpl_loadcellN); (exact rfl); infer_instance; (exact rfl)) | ((with_reducible apply (wpl_loadhash (t := 23))); (exact rfl); infer_instance; infer_instance; (first | (with_reducible assumption) | omega)) | ((with_reducible apply (wpl_loadint (t := 3))); (exact rfl); infer_instance; infer_instance; (first | (with_reducible assumption) | omega)) | ((with_reducible apply (wpl_loadbyte (t := 5))); (exact rfl); infer_instance; infer_instance; (first | (with_reducible assumption) | omega)))
        refine wpList_nil ?_
        unfold onlyN
        refine hK_.out _ _ inferInstance (fun _ => ?_)
        clear hK_ K_
        try simp only [Act.put, sA]; try simp only [sB, sC]
        refine goH (i := 7) (by kernel_rfl) rfl (fun K_ hK_ => ?_)
        go_simp
        refine (public_calls seed (k : Int) _).mono ?_
        rintro e w5 ⟨rfl, _⟩
        refine hK_.out _ _ inferInstance (fun _ => ?_)
        clear hK_ K_
        try simp only [Act.put, sA]; try simp only [sB, sC]
        refine goH (i := 10) (by kernel_rfl) rfl (fun K_ hK_ => ?_)
        rw [if_pos (by kernel_rfl)]
        refine wpr_of_list ?_
        (first | ((with_reducible apply (wpl_kSeed (t := 23))); (exact rfl); infer_instance; infer_instance) | ((with_reducible apply (wpl_indexAr (t := 123) (s := 32))); (exact rfl); (exact rfl); (exact Tryz.underlying123); (kernel_rfl); (first | (with_reducible assumption) | omega)) | ((with_reducible apply (wpl_kPutT (t := 23))); (exact rfl); (exact rfl); infer_instance; infer_instance; (exact HT.out); (first | (with_reducible assumption) | omega); intro ws _ _) | ((with_reducible apply wpl_indexH); (exact rfl); (exact rfl); infer_instance; infer_instance; (first | (with_reducible assumption) | omega); (first | (with_reducible assumption) | omega); (first | (with_reducible assumption) | omega)) | ((with_reducible apply wpl_indexH'); (exact rfl); (exact rfl); infer_instance; infer_instance; (first | (with_reducible assumption) | omega); (first | (with_reducible assumption) | omega); (first | (with_reducible assumption) | omega)))
        refine wpList_nil ?_
        unfold onlyN
        refine hK_.out _ _ inferInstance (fun _ => ?_)
        clear hK_ K_
        try simp only [Act.put, sA]; try simp only [sB, sC]
        refine goH (i := 11) (by kernel_rfl) rfl (fun K_ hK_ => ?_)
        rw [if_pos (by kernel_rfl)]
        refine wpr_of_list ?_
        (first | ((with_reducible apply (wpl_kSeed (t := 23))); (exact rfl); infer_instance; infer_instance) | ((with_reducible apply (wpl_indexAr (t := 123) (s := 32))); (exact rfl); (exact rfl); (exact Tryz.underlying123); (kernel_rfl); (first | (with_reducible assumption) | omega)) | ((with_reducible apply (wpl_kPutT (t := 23))); (exact rfl); (exact rfl); infer_instance; infer_instance; (exact HT.out); (first | (with_reducible assumption) | omega); intro ws _ _) | ((with_reducible apply wpl_storerow); (exact rfl); (exact rfl); infer_instance; infer_instance; (first | (with_reducible assumption) | (with_reducible exact H32.size _) | kernel_rfl); (first | (with_reducible assumption) | (with_reducible exact H32.size _) | kernel_rfl); (first | (with_reducible exact u8s_one _) | (with_reducible assumption) | kernel_rfl); intro ws _ _) | ((with_reducible apply wpl_storecell); (exact rfl); (exact rfl); infer_instance; (exact rfl); (first | (with_reducible assumption) | omega | (focus (simp; done)) | (focus (simp; omega; done)) | decide); intro ws _ _) | ((with_reducible apply (wpl_storehash (t := 23))); (exact rfl); (exact rfl); infer_instance; infer_instance; (first | (with_reducible assumption) | omega | (focus (simp; done)) | (focus (simp; omega; done)) | decide); intro ws _ _) | ((with_reducible apply (wpl_storeint (t := 3))); (exact rfl); (exact rfl); infer_instance; (first | (with_reducible assumption) | omega); intro ws _ _) | ((with_reducible apply (wpl_storebyte (t := 5))); (exact rfl); (exact rfl); infer_instance; (first | (with_reducible assumption) | omega | (focus (simp; done)) | (focus (simp; omega; done)) | decide); (constructor <;> omega); intro ws _ _))
        refine wpList_nil ?_
        unfold onlyN
        refine hK_.out _ _ inferInstance (fun _ => ?_)
        clear hK_ K_
        try simp only [Act.put]
        refine wpAnyH_done (by kernel_rfl) ?_ _
        go_wp2_with (first | ((with_reducible apply wpl_loadrow); (exact rfl); infer_instance; infer_instance; (first | (with_reducible assumption) | (with_reducible exact H32.size _) | kernel_rfl)) | ((with_reducible apply wpl_loadcellN); (exact rfl); infer_instance; (exact rfl)) | ((with_reducible apply wpl_storerow); (exact rfl); (exact rfl); infer_instance; infer_instance; (first | (with_reducible assumption) | (with_reducible exact H32.size _) | kernel_rfl); (first | (with_reducible assumption) | (with_reducible exact H32.size _) | kernel_rfl); (first | (with_reducible exact u8s_one _) | (with_reducible assumption) | kernel_rfl); intro ws _ _) | ((with_reducible apply wpl_storecell); (exact rfl); (exact rfl); infer_instance; (exact rfl); (first | (with_reducible assumption) | omega | (focus (simp; done)) | (focus (simp; omega; done)) | decide); intro ws _ _) | ((with_reducible apply wpl_sl_lh); (exact rfl); (exact rfl); (exact rfl); infer_instance; (first | (with_reducible assumption) | omega); (first | (with_reducible assumption) | omega)) | ((with_reducible apply wpl_sl_h); (exact rfl); (exact rfl); infer_instance; (first | (with_reducible assumption) | omega)) | ((with_reducible apply wpl_sl_l); (exact rfl); (exact rfl); infer_instance; (first | (with_reducible assumption) | omega)) | ((with_reducible apply wpl_indexH); (exact rfl); (exact rfl); infer_instance; infer_instance; (first | (with_reducible assumption) | omega); (first | (with_reducible assumption) | omega); (first | (with_reducible assumption) | omega)) | ((with_reducible apply wpl_indexH'); (exact rfl); (exact rfl); infer_instance; infer_instance; (first | (with_reducible assumption) | omega); (first | (with_reducible assumption) | omega); (first | (with_reducible assumption) | omega)) | ((with_reducible apply (wpl_loadhash (t := 23))); (exact rfl); infer_instance; infer_instance; (first | (with_reducible assumption) | omega)) | ((with_reducible apply wpl_sliceH); (exact rfl); (exact Tryz.underlying23); (kernel_rfl); infer_instance; (first | (with_reducible assumption) | omega)) | ((with_reducible apply (wpl_storehash (t := 23))); (exact rfl); (exact rfl); infer_instance; infer_instance; (first | (with_reducible assumption) | omega | (focus (simp; done)) | (focus (simp; omega; done)) | decide); intro ws _ _) | ((with_reducible apply (wpl_loadint (t := 3))); (exact rfl); infer_instance; infer_instance; (first | (with_reducible assumption) | omega)) | ((with_reducible apply (wpl_loadbyte (t := 5))); (exact rfl); infer_instance; infer_instance; (first | (with_reducible assumption) | omega)) | ((with_reducible apply (wpl_storeint (t := 3))); (exact rfl); (exact rfl); infer_instance; (first | (with_reducible assumption) | omega); intro ws _ _) | ((with_reducible apply (wpl_storebyte (t := 5))); (exact rfl); (exact rfl); infer_instance; (first | (with_reducible assumption) | omega | (focus (simp; done)) | (focus (simp; omega; done)) | decide); (constructor <;> omega); intro ws _ _))
        refine ⟨⟨k + 1, tr.set k (publicS seed (k : Int)), by omega, by go_num, Lib.hid (by rw [List.length_set]; exact HT.out), Lib.hid (fun j hj => ?_), stepC, inferInstance⟩, by simp [intOf]; omega⟩
        by_cases hjk : j = k
        · subst hjk
          have h16 := HT.out
          simp [hget, List.getD_eq_getElem?_getD, h16, hlt]
        · have := HJ.out j (by omega)
          rw [← this]
          simp [hget, List.getD_eq_getElem?_getD, Ne.symm hjk]
      · have hltI : ¬ (k : Int) < 16 := by omega
        have htr : tr = leavesS seed := by
          refine hget_ext (by rw [HT.out, leavesS_len]) (fun i hi => ?_)
          rw [HJ.out i (by have := HT.out; omega)]
          have : i < 16 := by have := HT.out; omega
          simp [hget, leavesS, List.getD_eq_getElem?_getD, this]
        subst htr
        go_wp2_with (first | ((with_reducible apply (wpl_kPutG (t := 4))); (exact rfl); (exact rfl); infer_instance; infer_instance; (exact HT.out); intro ws _ _) | ((with_reducible apply (wpl_sliceAr (t := 123) (s := 32))); (exact rfl); (exact Tryz.underlying123); (kernel_rfl)) | ((with_reducible apply wpl_loadrow); (exact rfl); infer_instance; infer_instance; (first | (with_reducible assumption) | (with_reducible exact H32.size _) | kernel_rfl)) | ((with_reducible apply wpl_loadcellN); (exact rfl); infer_instance; (exact rfl)) | ((with_reducible apply wpl_storerow); (exact rfl); (exact rfl); infer_instance; infer_instance; (first | (with_reducible assumption) | (with_reducible exact H32.size _) | kernel_rfl); (first | (with_reducible assumption) | (with_reducible exact H32.size _) | kernel_rfl); (first | (with_reducible exact u8s_one _) | (with_reducible assumption) | kernel_rfl); intro ws _ _) | ((with_reducible apply wpl_storecell); (exact rfl); (exact rfl); infer_instance; (exact rfl); (first | (with_reducible assumption) | omega | (focus (simp; done)) | (focus (simp; omega; done)) | decide); intro ws _ _) | ((with_reducible apply wpl_sl_lh); (exact rfl); (exact rfl); (exact rfl); infer_instance; (first | (with_reducible assumption) | omega); (first | (with_reducible assumption) | omega)) | ((with_reducible apply wpl_sl_h); (exact rfl); (exact rfl); infer_instance; (first | (with_reducible assumption) | omega)) | ((with_reducible apply wpl_sl_l); (exact rfl); (exact rfl); infer_instance; (first | (with_reducible assumption) | omega)) | ((with_reducible apply wpl_indexH); (exact rfl); (exact rfl); infer_instance; infer_instance; (first | (with_reducible assumption) | omega); (first | (with_reducible assumption) | omega); (first | (with_reducible assumption) | omega)) | ((with_reducible apply wpl_indexH'); (exact rfl); (exact rfl); infer_instance; infer_instance; (first | (with_reducible assumption) | omega); (first | (with_reducible assumption) | omega); (first | (with_reducible assumption) | omega)) | ((with_reducible apply (wpl_loadhash (t := 23))); (exact rfl); infer_instance; infer_instance; (first | (with_reducible assumption) | omega)) | ((with_reducible apply wpl_sliceH); (exact rfl); (exact Tryz.underlying23); (kernel_rfl); infer_instance; (first | (with_reducible assumption) | omega)) | ((with_reducible apply (wpl_storehash (t := 23))); (exact rfl); (exact rfl); infer_instance; infer_instance; (first | (with_reducible assumption) | omega | (focus (simp; done)) | (focus (simp; omega; done)) | decide); intro ws _ _) | ((with_reducible apply (wpl_loadint (t := 3))); (exact rfl); infer_instance; infer_instance; (first | (with_reducible assumption) | omega)) | ((with_reducible apply (wpl_loadbyte (t := 5))); (exact rfl); infer_instance; infer_instance; (first | (with_reducible assumption) | omega)) | ((with_reducible apply (wpl_storeint (t := 3))); (exact rfl); (exact rfl); infer_instance; (first | (with_reducible assumption) | omega); intro ws _ _) | ((with_reducible apply (wpl_storebyte (t := 5))); (exact rfl); (exact rfl); infer_instance; (first | (with_reducible assumption) | omega | (focus (simp; done)) | (focus (simp; omega; done)) | decide); (constructor <;> omega); intro ws _ _))
        go_ret
        have hb9 : HB ws zk 125 (keyL seed used true (leavesS seed)).toArray := inferInstance
        exact ⟨rfl, stepC, ⟨true, leavesS seed, HT.out, fun _ => rfl, hb9⟩, HR.keyTree hb9⟩
def pubS (seed : H32) : H32 := nameS (rootL (leavesS seed))
set_option maxRecDepth 100000 in
theorem kpublic_calls {zk : Nat} {seed : H32} {used : Int} {w : World} [hk : KeyAt w zk seed used] :
    Calls Tryz.prog 31 #[.pointer (some ⟨zk, 0, none⟩)] w fun e w' => e = .returned (.agg (u8s (pubS seed).l)) ∧ Step (only zk) w w' ∧ KeyAt w' zk seed used := by
  obtain ⟨U, hU⟩ : ∃ U, U = rootL (leavesS seed) := ⟨_, rfl⟩
  obtain ⟨N, hN⟩ : ∃ N, N = pubS seed := ⟨_, rfl⟩
  have hNU : N = nameS U := by rw [hN, hU]; rfl
  have HU := Lib.hid hU
  have HN := Lib.hid hNU
  rw [← hN]
  clear hU hN hNU
  go_enter Tryz.func31, Tryz.ntmps31
  go_wp2_with (first | ((with_reducible apply (wpl_alloc (dst := some 2))); intro zo wzo _ _ _) | ((with_reducible apply wpl_alloc); intro z wz _ _ _) | ((with_reducible apply wpl_storerow); (exact rfl); (exact rfl); infer_instance; infer_instance; (first | (with_reducible assumption) | (with_reducible exact H32.size _) | kernel_rfl); (first | (with_reducible assumption) | (with_reducible exact H32.size _) | kernel_rfl); (first | (with_reducible exact u8s_one _) | (with_reducible assumption) | kernel_rfl); intro ws _ _) | ((with_reducible apply wpl_storecell); (exact rfl); (exact rfl); infer_instance; (exact rfl); (first | (with_reducible assumption) | omega | (focus (simp; done)) | (focus (simp; omega; done)) | decide); intro ws _ _) | ((with_reducible apply (wpl_storehash (t := 23))); (exact rfl); (exact rfl); infer_instance; infer_instance; (first | (with_reducible assumption) | omega | (focus (simp; done)) | (focus (simp; omega; done)) | decide); intro ws _ _) | ((with_reducible apply (wpl_storeint (t := 3))); (exact rfl); (exact rfl); infer_instance; (first | (with_reducible assumption) | omega); intro ws _ _) | ((with_reducible apply (wpl_storebyte (t := 5))); (exact rfl); (exact rfl); infer_instance; (first | (with_reducible assumption) | omega | (focus (simp; done)) | (focus (simp; omega; done)) | decide); (constructor <;> omega); intro ws _ _))
  refine (leaves_calls).mono ?_
  rintro e w1 ⟨rfl, _, _, _⟩
  go_wp2_with (first | ((with_reducible apply wpl_alloc); intro z wz _ _ _) | ((with_reducible apply wpl_storerow); (exact rfl); (exact rfl); infer_instance; infer_instance; (first | (with_reducible assumption) | (with_reducible exact H32.size _) | kernel_rfl); (first | (with_reducible assumption) | (with_reducible exact H32.size _) | kernel_rfl); (first | (with_reducible exact u8s_one _) | (with_reducible assumption) | kernel_rfl); intro ws _ _) | ((with_reducible apply wpl_storecell); (exact rfl); (exact rfl); infer_instance; (exact rfl); (first | (with_reducible assumption) | omega | (focus (simp; done)) | (focus (simp; omega; done)) | decide); intro ws _ _) | ((with_reducible apply (wpl_storehash (t := 23))); (exact rfl); (exact rfl); infer_instance; infer_instance; (first | (with_reducible assumption) | omega | (focus (simp; done)) | (focus (simp; omega; done)) | decide); intro ws _ _) | ((with_reducible apply (wpl_storeint (t := 3))); (exact rfl); (exact rfl); infer_instance; (first | (with_reducible assumption) | omega); intro ws _ _) | ((with_reducible apply (wpl_storebyte (t := 5))); (exact rfl); (exact rfl); infer_instance; (first | (with_reducible assumption) | omega | (focus (simp; done)) | (focus (simp; omega; done)) | decide); (constructor <;> omega); intro ws _ _))
  refine (rootC (leavesS_len seed) (by decide)).mono ?_
  rw [← HU.out]
  rintro e w2 ⟨rfl, _⟩
  go_wp2_with (first | ((with_reducible apply wpl_alloc); intro z wz _ _ _) | ((with_reducible apply wpl_storerow); (exact rfl); (exact rfl); infer_instance; infer_instance; (first | (with_reducible assumption) | (with_reducible exact H32.size _) | kernel_rfl); (first | (with_reducible assumption) | (with_reducible exact H32.size _) | kernel_rfl); (first | (with_reducible exact u8s_one _) | (with_reducible assumption) | kernel_rfl); intro ws _ _) | ((with_reducible apply wpl_storecell); (exact rfl); (exact rfl); infer_instance; (exact rfl); (first | (with_reducible assumption) | omega | (focus (simp; done)) | (focus (simp; omega; done)) | decide); intro ws _ _) | ((with_reducible apply (wpl_storehash (t := 23))); (exact rfl); (exact rfl); infer_instance; infer_instance; (first | (with_reducible assumption) | omega | (focus (simp; done)) | (focus (simp; omega; done)) | decide); intro ws _ _) | ((with_reducible apply (wpl_storeint (t := 3))); (exact rfl); (exact rfl); infer_instance; (first | (with_reducible assumption) | omega); intro ws _ _) | ((with_reducible apply (wpl_storebyte (t := 5))); (exact rfl); (exact rfl); infer_instance; (first | (with_reducible assumption) | omega | (focus (simp; done)) | (focus (simp; omega; done)) | decide); (constructor <;> omega); intro ws _ _))
  refine (name_calls U _).mono ?_
  rw [← HN.out]
  rintro e w3 ⟨rfl, _⟩
  go_wp2_with (first | ((with_reducible apply wpl_alloc); intro z wz _ _ _) | ((with_reducible apply wpl_storerow); (exact rfl); (exact rfl); infer_instance; infer_instance; (first | (with_reducible assumption) | (with_reducible exact H32.size _) | kernel_rfl); (first | (with_reducible assumption) | (with_reducible exact H32.size _) | kernel_rfl); (first | (with_reducible exact u8s_one _) | (with_reducible assumption) | kernel_rfl); intro ws _ _) | ((with_reducible apply wpl_storecell); (exact rfl); (exact rfl); infer_instance; (exact rfl); (first | (with_reducible assumption) | omega | (focus (simp; done)) | (focus (simp; omega; done)) | decide); intro ws _ _) | ((with_reducible apply (wpl_storehash (t := 23))); (exact rfl); (exact rfl); infer_instance; infer_instance; (first | (with_reducible assumption) | omega | (focus (simp; done)) | (focus (simp; omega; done)) | decide); intro ws _ _) | ((with_reducible apply (wpl_storeint (t := 3))); (exact rfl); (exact rfl); infer_instance; (first | (with_reducible assumption) | omega); intro ws _ _) | ((with_reducible apply (wpl_storebyte (t := 5))); (exact rfl); (exact rfl); infer_instance; (first | (with_reducible assumption) | omega | (focus (simp; done)) | (focus (simp; omega; done)) | decide); (constructor <;> omega); intro ws _ _))
  exact ret_row rfl rfl (n := 32) (H32.size _) rfl ⟨rfl, stepC, inferInstance⟩
set_option maxRecDepth 100000 in
set_option maxHeartbeats 3200000 in
theorem ksignD_calls {zk : Nat} {seed : H32} {used : Int} {A : Option Addr} {n c : Nat} {m : List UInt8} {w : World} [hk : KeyAt w zk seed used] [hr : HR w A (bs m)] (hm : m.length = n) (hc : n ≤ c) (hn : n ≤ 100000) (h0 : 0 ≤ used) (h16 : used < 16) :
    Calls Tryz.prog 33 #[.pointer (some ⟨zk, 0, none⟩), .slice A n c] w fun e w' => ∃ z A' c', e = .returned (.tuple #[.agg #[.int .i64 used, .slice (some ⟨z, 0, none⟩) 36 36, .slice A' (pathA (leavesS seed) used).length c'], .int .i64 0]) ∧ Step (only zk) w w' ∧ KeyAt w' zk seed (used + 1) ∧
      NewA w (some ⟨z, 0, none⟩) ∧ NewA w A' ∧ HO w' 23 32 (some ⟨z, 0, none⟩) 36 36 (cellsOf (signS seed used m)) ∧ HO w' 23 32 A' (pathA (leavesS seed) used).length c' (cellsOf (pathA (leavesS seed) used)) ∧ OffA (rowOf (some ⟨z, 0, none⟩)) A' ∧ OffA (rowOf A') (some ⟨z, 0, none⟩) := by
  have kbS : ∀ (u : Int) (z : Nat) (B : Option Addr) (k d : Nat) w, (Instr.build 127 #[(0, .int .i64 u), (1, .slice (some ⟨z, 0, none⟩) 36 36), (2, .slice B k d)]).run Tryz.prog w = .ok (.agg #[.int .i64 u, .slice (some ⟨z, 0, none⟩) 36 36, .slice B k d]) w := fun _ _ _ _ _ _ => by kernel_rfl
  obtain ⟨S, hS⟩ : ∃ S, S = signS seed used m := ⟨_, rfl⟩
  obtain ⟨Pa, hP⟩ : ∃ Pa, Pa = pathA (leavesS seed) used := ⟨_, rfl⟩
  have HS := Lib.hid hS
  have HP := Lib.hid hP
  rw [← hS, ← hP]
  clear hS hP
  go_enter Tryz.func33, Tryz.ntmps33
  go_wp2_with (first | ((with_reducible apply (wpl_kUsed (t := 3))); (exact rfl); infer_instance; infer_instance) | ((with_reducible apply (wpl_alloc (dst := some 4))); intro zo wzo _ _ _) | ((with_reducible apply wpl_alloc); intro z wz _ _ _) | ((with_reducible apply wpl_loadrow); (exact rfl); infer_instance; infer_instance; (first | (with_reducible assumption) | (with_reducible exact H32.size _) | kernel_rfl)) | ((with_reducible apply wpl_loadcellN); (exact rfl); infer_instance; (exact rfl)) | ((with_reducible apply wpl_storerow); (exact rfl); (exact rfl); infer_instance; infer_instance; (first | (with_reducible assumption) | (with_reducible exact H32.size _) | kernel_rfl); (first | (with_reducible assumption) | (with_reducible exact H32.size _) | kernel_rfl); (first | (with_reducible exact u8s_one _) | (with_reducible assumption) | kernel_rfl); intro ws _ _) | ((with_reducible apply wpl_storecell); (exact rfl); (exact rfl); infer_instance; (exact rfl); (first | (with_reducible assumption) | omega | (focus (simp; done)) | (focus (simp; omega; done)) | decide); intro ws _ _) | ((with_reducible apply (wpl_loadhash (t := 23))); (exact rfl); infer_instance; infer_instance; (first | (with_reducible assumption) | omega)) | ((with_reducible apply (wpl_storehash (t := 23))); (exact rfl); (exact rfl); infer_instance; infer_instance; (first | (with_reducible assumption) | omega | (focus (simp; done)) | (focus (simp; omega; done)) | decide); intro ws _ _) | ((with_reducible apply (wpl_loadint (t := 3))); (exact rfl); infer_instance; infer_instance; (first | (with_reducible assumption) | omega)) | ((with_reducible apply (wpl_loadbyte (t := 5))); (exact rfl); infer_instance; infer_instance; (first | (with_reducible assumption) | omega)) | ((with_reducible apply (wpl_storeint (t := 3))); (exact rfl); (exact rfl); infer_instance; (first | (with_reducible assumption) | omega); intro ws _ _) | ((with_reducible apply (wpl_storebyte (t := 5))); (exact rfl); (exact rfl); infer_instance; (first | (with_reducible assumption) | omega | (focus (simp; done)) | (focus (simp; omega; done)) | decide); (constructor <;> omega); intro ws _ _))
  refine wp_region_I (KI zk seed used) ((only zk)) (by kernel_rfl) inferInstance (fun wd _ _ => ?_)
  refine' takeH (i := 0) (v := _) rfl (by kernel_rfl) (by kernel_rfl) (by kernel_rfl) (fun _ _ _ h => h) (yields_ofI (by rfl) (fun w' _ => ?_)) inferInstance ?_
  rotate_left
  · (go_simp; try with_reducible rfl)
  try simp only [Act.put, sA]; try simp only [sB, sC]
  refine' takeH (i := 1) (v := _) rfl (by kernel_rfl) (by kernel_rfl) (by kernel_rfl) (fun _ _ _ h => h) (yields_ofI (by rfl) (fun w' _ => ?_)) inferInstance ?_
  rotate_left
  · (go_simp; try with_reducible rfl)
  try simp only [Act.put, sA]; try simp only [sB, sC]
  refine' takeH (i := 2) (v := _) rfl (by kernel_rfl) (by kernel_rfl) (by kernel_rfl) (fun _ _ _ h => h) (yields_ofI (by rfl) (fun w' _ => ?_)) inferInstance ?_
  rotate_left
  · (go_simp; try with_reducible rfl)
  try simp only [Act.put, sA]; try simp only [sB, sC]
  refine' takeH (i := 3) (v := _) rfl (by kernel_rfl) (by kernel_rfl) (by kernel_rfl) (fun _ _ _ h => h) (yields_ofI (by rfl) (fun w' _ => ?_)) inferInstance ?_
  rotate_left
  · (first | ((with_reducible apply (ev_loadKSeed (t := 23))); (exact rfl); infer_instance; infer_instance) | ((with_reducible apply (ev_loadKUsed (t := 3))); (exact rfl); infer_instance; infer_instance) | ((with_reducible apply ev_loadrow); (exact rfl); infer_instance; infer_instance; (first | (with_reducible assumption) | (with_reducible exact H32.size _) | kernel_rfl)) | ((with_reducible apply (ev_loadhash (t := 23))); (exact rfl); infer_instance; infer_instance; (first | (with_reducible assumption) | omega)) | ((with_reducible apply ev_loadcellN); (exact rfl); infer_instance; infer_instance; (exact rfl)) | ((with_reducible apply (ev_loadint (t := 3))); (exact rfl); infer_instance; infer_instance; (first | (with_reducible assumption) | omega)) | ((with_reducible apply (ev_loadbyte (t := 5))); (exact rfl); infer_instance; infer_instance; (first | (with_reducible assumption) | omega)) | (go_simp; try with_reducible rfl))
  try simp only [Act.put, sA]; try simp only [sB, sC]
  refine' takeH (i := 4) (v := _) rfl (by kernel_rfl) (by kernel_rfl) (by kernel_rfl) (fun _ _ _ h => h) (yields_ofI (by rfl) (fun w' _ => ?_)) inferInstance ?_
  rotate_left
  · (go_simp; try with_reducible rfl)
  try simp only [Act.put, sA]; try simp only [sB, sC]
  refine' takeH (i := 5) (v := _) rfl (by kernel_rfl) (by kernel_rfl) (by kernel_rfl) (fun _ _ _ h => h) (yields_ofI (by rfl) (fun w' _ => ?_)) inferInstance ?_
  rotate_left
  · (go_simp; try with_reducible rfl)
  try simp only [Act.put, sA]; try simp only [sB, sC]
  refine' takeH (i := 6) (v := _) rfl (by kernel_rfl) (by kernel_rfl) (by kernel_rfl) (fun _ _ _ h => h) (yields_ofI (by rfl) (fun w' _ => ?_)) inferInstance ?_
  rotate_left
  · (go_simp; try with_reducible rfl)
  try simp only [Act.put, sA]; try simp only [sB, sC]
  refine' takeH (i := 7) (v := _) rfl (by kernel_rfl) (by kernel_rfl) (by kernel_rfl) (fun _ _ _ h => h) (yields_ofI (by rfl) (fun w' _ => ?_)) inferInstance ?_
  rotate_left
  · (first | ((with_reducible apply (ev_loadKSeed (t := 23))); (exact rfl); infer_instance; infer_instance) | ((with_reducible apply (ev_loadKUsed (t := 3))); (exact rfl); infer_instance; infer_instance) | ((with_reducible apply ev_loadrow); (exact rfl); infer_instance; infer_instance; (first | (with_reducible assumption) | (with_reducible exact H32.size _) | kernel_rfl)) | ((with_reducible apply (ev_loadhash (t := 23))); (exact rfl); infer_instance; infer_instance; (first | (with_reducible assumption) | omega)) | ((with_reducible apply ev_loadcellN); (exact rfl); infer_instance; infer_instance; (exact rfl)) | ((with_reducible apply (ev_loadint (t := 3))); (exact rfl); infer_instance; infer_instance; (first | (with_reducible assumption) | omega)) | ((with_reducible apply (ev_loadbyte (t := 5))); (exact rfl); infer_instance; infer_instance; (first | (with_reducible assumption) | omega)) | (go_simp; try with_reducible rfl))
  try simp only [Act.put, sA]; try simp only [sB, sC]
  refine' takeH (i := 8) (v := _) rfl (by kernel_rfl) (by kernel_rfl) (by kernel_rfl) (fun _ _ _ h => h) (yields_ofI (by rfl) (fun w' _ => ?_)) inferInstance ?_
  rotate_left
  · (go_simp; try with_reducible rfl)
  try simp only [Act.put, sA]; try simp only [sB, sC]
  refine' takeH (i := 9) (v := _) rfl (by kernel_rfl) (by kernel_rfl) (by kernel_rfl) (fun _ _ _ h => h) (yields_ofI (by rfl) (fun w' _ => ?_)) inferInstance ?_
  rotate_left
  · (go_simp; try with_reducible rfl)
  try simp only [Act.put, sA]; try simp only [sB, sC]
  refine' takeH (i := 10) (v := _) rfl (by kernel_rfl) (by kernel_rfl) (by kernel_rfl) (fun _ _ _ h => h) (yields_ofI (by rfl) (fun w' _ => ?_)) inferInstance ?_
  rotate_left
  · (go_simp; try with_reducible rfl)
  try simp only [Act.put, sA]; try simp only [sB, sC]
  refine' takeH (i := 11) (v := _) rfl (by kernel_rfl) (by kernel_rfl) (by kernel_rfl) (fun _ _ _ h => h) (yields_ofI (by rfl) (fun w' _ => ?_)) inferInstance ?_
  rotate_left
  · (first | ((with_reducible apply (ev_loadKSeed (t := 23))); (exact rfl); infer_instance; infer_instance) | ((with_reducible apply (ev_loadKUsed (t := 3))); (exact rfl); infer_instance; infer_instance) | ((with_reducible apply ev_loadrow); (exact rfl); infer_instance; infer_instance; (first | (with_reducible assumption) | (with_reducible exact H32.size _) | kernel_rfl)) | ((with_reducible apply (ev_loadhash (t := 23))); (exact rfl); infer_instance; infer_instance; (first | (with_reducible assumption) | omega)) | ((with_reducible apply ev_loadcellN); (exact rfl); infer_instance; infer_instance; (exact rfl)) | ((with_reducible apply (ev_loadint (t := 3))); (exact rfl); infer_instance; infer_instance; (first | (with_reducible assumption) | omega)) | ((with_reducible apply (ev_loadbyte (t := 5))); (exact rfl); infer_instance; infer_instance; (first | (with_reducible assumption) | omega)) | (go_simp; try with_reducible rfl))
  try simp only [Act.put, sA]; try simp only [sB, sC]
  refine' takeH (i := 12) (v := _) rfl (by kernel_rfl) (by kernel_rfl) (by kernel_rfl) (fun _ _ _ h => h) (yields_ofI (by rfl) (fun w' _ => ?_)) inferInstance ?_
  rotate_left
  · (go_simp; try with_reducible rfl)
  try simp only [Act.put, sA]; try simp only [sB, sC]
  refine' takeH (i := 14) (v := _) rfl (by kernel_rfl) (by kernel_rfl) (by kernel_rfl) (fun _ _ _ h => h) (yields_ofI (by rfl) (fun w' _ => ?_)) inferInstance ?_
  rotate_left
  · (go_simp; try with_reducible rfl)
  try simp only [Act.put, sA]; try simp only [sB, sC]
  refine' takeH (i := 16) (v := _) rfl (by kernel_rfl) (by kernel_rfl) (by kernel_rfl) (fun _ _ _ h => h) (yields_ofI (by rfl) (fun w' _ => ?_)) inferInstance ?_
  rotate_left
  · (go_simp; try with_reducible rfl)
  try simp only [Act.put, sA]; try simp only [sB, sC]
  refine' takeH (i := 17) (v := _) rfl (by kernel_rfl) (by kernel_rfl) (by kernel_rfl) (fun _ _ _ h => h) (yields_ofI (by rfl) (fun w' _ => ?_)) inferInstance ?_
  rotate_left
  · (go_simp; try with_reducible rfl)
  try simp only [Act.put, sA]; try simp only [sB, sC]
  refine' takeH (i := 18) (v := _) rfl (by kernel_rfl) (by kernel_rfl) (by kernel_rfl) (fun _ _ _ h => h) (yields_ofI (by rfl) (fun w' _ => ?_)) inferInstance ?_
  rotate_left
  · (go_simp; try with_reducible rfl)
  try simp only [Act.put, sA]; try simp only [sB, sC]
  refine' takeH (i := 19) (v := _) rfl (by kernel_rfl) (by kernel_rfl) (by kernel_rfl) (fun _ _ _ h => h) (yields_ofI (by rfl) (fun w' _ => ?_)) inferInstance ?_
  rotate_left
  · (first | ((with_reducible apply (ev_loadKSeed (t := 23))); (exact rfl); infer_instance; infer_instance) | ((with_reducible apply (ev_loadKUsed (t := 3))); (exact rfl); infer_instance; infer_instance) | ((with_reducible apply ev_loadrow); (exact rfl); infer_instance; infer_instance; (first | (with_reducible assumption) | (with_reducible exact H32.size _) | kernel_rfl)) | ((with_reducible apply (ev_loadhash (t := 23))); (exact rfl); infer_instance; infer_instance; (first | (with_reducible assumption) | omega)) | ((with_reducible apply ev_loadcellN); (exact rfl); infer_instance; infer_instance; (exact rfl)) | ((with_reducible apply (ev_loadint (t := 3))); (exact rfl); infer_instance; infer_instance; (first | (with_reducible assumption) | omega)) | ((with_reducible apply (ev_loadbyte (t := 5))); (exact rfl); infer_instance; infer_instance; (first | (with_reducible assumption) | omega)) | (go_simp; try with_reducible rfl))
  try simp only [Act.put, sA]; try simp only [sB, sC]
  refine wpAnyH_ready (rs := [13, 22]) (by kernel_rfl) (by simp) (AllReadyH.cons rfl (fun K_ hK_ => ?br1_13) (AllReadyH.cons rfl (fun K_ hK_ => ?br1_22) AllReadyH.nil))
  case' br1_13 =>
    go_simp
    refine (sign_calls seed used hm hc hn).mono ?_
    rw [← HS.out]
    rintro e w5 ⟨z, rfl, _, hz, _⟩
    refine hK_.out _ _ inferInstance (fun _ => ?_)
    clear hK_ K_
    try simp only [Act.put, sA]; try simp only [sB, sC]
    refine wpAnyH_ready (rs := [15, 22]) (by kernel_rfl) (by simp) (AllReadyH.cons rfl (fun K_ hK_ => ?br2_15) (AllReadyH.cons rfl (fun K_ hK_ => ?br2_22) AllReadyH.nil))
    case' br2_15 =>
      go_simp
      refine (leaves_calls).mono ?_
      rintro e w6 ⟨rfl, _, _, _⟩
      refine hK_.out _ _ inferInstance (fun _ => ?_)
      clear hK_ K_
      try simp only [Act.put, sA]; try simp only [sB, sC]
      refine wpAnyH_ready (rs := [20, 22]) (by kernel_rfl) (by simp) (AllReadyH.cons rfl (fun K_ hK_ => ?br3_20) (AllReadyH.cons rfl (fun K_ hK_ => ?br3_22) AllReadyH.nil))
      case' br3_20 =>
        go_simp
        refine (pathC used (leavesS_len seed) (by decide)).mono ?_
        rw [← HP.out]
        rintro e w7 ⟨A7, c7, rfl, _, hA7, _⟩
        refine hK_.out _ _ inferInstance (fun _ => ?_)
        clear hK_ K_
        try simp only [Act.put, sA]; try simp only [sB, sC]
        refine' takeH (i := 21) (v := _) rfl (by kernel_rfl) (by kernel_rfl) (by kernel_rfl) (fun _ _ _ h => h) (yields_ofI (by rfl) (fun w' _ => ?_)) inferInstance ?_
        rotate_left
        · (first | ((with_reducible apply ev_build); exact kbS _ _ _ _ _ _) | (go_simp; try with_reducible rfl))
        try simp only [Act.put, sA]; try simp only [sB, sC]
        refine goH (i := 22) (by kernel_rfl) rfl (fun K_ hK_ => ?_)
        rw [if_pos (by kernel_rfl)]
        refine wpr_of_list ?_
        (first | ((with_reducible apply wpl_build); (exact kbS _ _ _ _ _ _)) | ((with_reducible apply (wpl_alloc (dst := some 6))); intro z6 wz6 _ _ _) | ((with_reducible apply wpl_alloc); intro z wz _ _ _))
        refine wpList_nil ?_
        unfold onlyN
        refine hK_.out _ _ inferInstance (fun _ => ?_)
        clear hK_ K_
        try simp only [Act.put, sA]; try simp only [sB, sC]
        refine goH (i := 23) (by kernel_rfl) rfl (fun K_ hK_ => ?_)
        rw [if_pos (by kernel_rfl)]
        refine wpr_of_list ?_
        (first | ((with_reducible apply wpl_build); (exact kbS _ _ _ _ _ _)) | ((with_reducible apply wpl_storerow); (exact rfl); (exact rfl); infer_instance; infer_instance; (first | (with_reducible assumption) | (with_reducible exact H32.size _) | kernel_rfl); (first | (with_reducible assumption) | (with_reducible exact H32.size _) | kernel_rfl); (first | (with_reducible exact u8s_one _) | (with_reducible assumption) | kernel_rfl); intro ws _ _) | ((with_reducible apply wpl_storecell); (exact rfl); (exact rfl); infer_instance; (exact rfl); (first | (with_reducible assumption) | omega | (focus (simp; done)) | (focus (simp; omega; done)) | decide); intro ws _ _) | ((with_reducible apply (wpl_storehash (t := 23))); (exact rfl); (exact rfl); infer_instance; infer_instance; (first | (with_reducible assumption) | omega | (focus (simp; done)) | (focus (simp; omega; done)) | decide); intro ws _ _) | ((with_reducible apply (wpl_storeint (t := 3))); (exact rfl); (exact rfl); infer_instance; (first | (with_reducible assumption) | omega); intro ws _ _) | ((with_reducible apply (wpl_storebyte (t := 5))); (exact rfl); (exact rfl); infer_instance; (first | (with_reducible assumption) | omega | (focus (simp; done)) | (focus (simp; omega; done)) | decide); (constructor <;> omega); intro ws _ _))
        refine wpList_nil ?_
        unfold onlyN
        refine hK_.out _ _ inferInstance (fun _ => ?_)
        clear hK_ K_
        try simp only [Act.put]
        refine wpAnyH_done (by kernel_rfl) ?_ _
      case' br3_22 =>
        rw [if_pos (by kernel_rfl)]
        refine wpr_of_list ?_
        (first | ((with_reducible apply wpl_build); (exact kbS _ _ _ _ _ _)) | ((with_reducible apply (wpl_alloc (dst := some 6))); intro z6 wz6 _ _ _) | ((with_reducible apply wpl_alloc); intro z wz _ _ _))
        refine wpList_nil ?_
        unfold onlyN
        refine hK_.out _ _ inferInstance (fun _ => ?_)
        clear hK_ K_
        try simp only [Act.put, sA]; try simp only [sB, sC]
        refine goH (i := 20) (by kernel_rfl) rfl (fun K_ hK_ => ?_)
        go_simp
        refine (pathC used (leavesS_len seed) (by decide)).mono ?_
        rw [← HP.out]
        rintro e w7 ⟨A7, c7, rfl, _, hA7, _⟩
        refine hK_.out _ _ inferInstance (fun _ => ?_)
        clear hK_ K_
        try simp only [Act.put, sA]; try simp only [sB, sC]
        refine' takeH (i := 21) (v := _) rfl (by kernel_rfl) (by kernel_rfl) (by kernel_rfl) (fun _ _ _ h => h) (yields_ofI (by rfl) (fun w' _ => ?_)) inferInstance ?_
        rotate_left
        · (first | ((with_reducible apply ev_build); exact kbS _ _ _ _ _ _) | (go_simp; try with_reducible rfl))
        try simp only [Act.put, sA]; try simp only [sB, sC]
        refine goH (i := 23) (by kernel_rfl) rfl (fun K_ hK_ => ?_)
        rw [if_pos (by kernel_rfl)]
        refine wpr_of_list ?_
        (first | ((with_reducible apply wpl_build); (exact kbS _ _ _ _ _ _)) | ((with_reducible apply wpl_storerow); (exact rfl); (exact rfl); infer_instance; infer_instance; (first | (with_reducible assumption) | (with_reducible exact H32.size _) | kernel_rfl); (first | (with_reducible assumption) | (with_reducible exact H32.size _) | kernel_rfl); (first | (with_reducible exact u8s_one _) | (with_reducible assumption) | kernel_rfl); intro ws _ _) | ((with_reducible apply wpl_storecell); (exact rfl); (exact rfl); infer_instance; (exact rfl); (first | (with_reducible assumption) | omega | (focus (simp; done)) | (focus (simp; omega; done)) | decide); intro ws _ _) | ((with_reducible apply (wpl_storehash (t := 23))); (exact rfl); (exact rfl); infer_instance; infer_instance; (first | (with_reducible assumption) | omega | (focus (simp; done)) | (focus (simp; omega; done)) | decide); intro ws _ _) | ((with_reducible apply (wpl_storeint (t := 3))); (exact rfl); (exact rfl); infer_instance; (first | (with_reducible assumption) | omega); intro ws _ _) | ((with_reducible apply (wpl_storebyte (t := 5))); (exact rfl); (exact rfl); infer_instance; (first | (with_reducible assumption) | omega | (focus (simp; done)) | (focus (simp; omega; done)) | decide); (constructor <;> omega); intro ws _ _))
        refine wpList_nil ?_
        unfold onlyN
        refine hK_.out _ _ inferInstance (fun _ => ?_)
        clear hK_ K_
        try simp only [Act.put]
        refine wpAnyH_done (by kernel_rfl) ?_ _
    case' br2_22 =>
      rw [if_pos (by kernel_rfl)]
      refine wpr_of_list ?_
      (first | ((with_reducible apply wpl_build); (exact kbS _ _ _ _ _ _)) | ((with_reducible apply (wpl_alloc (dst := some 6))); intro z6 wz6 _ _ _) | ((with_reducible apply wpl_alloc); intro z wz _ _ _))
      refine wpList_nil ?_
      unfold onlyN
      refine hK_.out _ _ inferInstance (fun _ => ?_)
      clear hK_ K_
      try simp only [Act.put, sA]; try simp only [sB, sC]
      refine goH (i := 15) (by kernel_rfl) rfl (fun K_ hK_ => ?_)
      go_simp
      refine (leaves_calls).mono ?_
      rintro e w6 ⟨rfl, _, _, _⟩
      refine hK_.out _ _ inferInstance (fun _ => ?_)
      clear hK_ K_
      try simp only [Act.put, sA]; try simp only [sB, sC]
      refine goH (i := 20) (by kernel_rfl) rfl (fun K_ hK_ => ?_)
      go_simp
      refine (pathC used (leavesS_len seed) (by decide)).mono ?_
      rw [← HP.out]
      rintro e w7 ⟨A7, c7, rfl, _, hA7, _⟩
      refine hK_.out _ _ inferInstance (fun _ => ?_)
      clear hK_ K_
      try simp only [Act.put, sA]; try simp only [sB, sC]
      refine' takeH (i := 21) (v := _) rfl (by kernel_rfl) (by kernel_rfl) (by kernel_rfl) (fun _ _ _ h => h) (yields_ofI (by rfl) (fun w' _ => ?_)) inferInstance ?_
      rotate_left
      · (first | ((with_reducible apply ev_build); exact kbS _ _ _ _ _ _) | (go_simp; try with_reducible rfl))
      try simp only [Act.put, sA]; try simp only [sB, sC]
      refine goH (i := 23) (by kernel_rfl) rfl (fun K_ hK_ => ?_)
      rw [if_pos (by kernel_rfl)]
      refine wpr_of_list ?_
      (first | ((with_reducible apply wpl_build); (exact kbS _ _ _ _ _ _)) | ((with_reducible apply wpl_storerow); (exact rfl); (exact rfl); infer_instance; infer_instance; (first | (with_reducible assumption) | (with_reducible exact H32.size _) | kernel_rfl); (first | (with_reducible assumption) | (with_reducible exact H32.size _) | kernel_rfl); (first | (with_reducible exact u8s_one _) | (with_reducible assumption) | kernel_rfl); intro ws _ _) | ((with_reducible apply wpl_storecell); (exact rfl); (exact rfl); infer_instance; (exact rfl); (first | (with_reducible assumption) | omega | (focus (simp; done)) | (focus (simp; omega; done)) | decide); intro ws _ _) | ((with_reducible apply (wpl_storehash (t := 23))); (exact rfl); (exact rfl); infer_instance; infer_instance; (first | (with_reducible assumption) | omega | (focus (simp; done)) | (focus (simp; omega; done)) | decide); intro ws _ _) | ((with_reducible apply (wpl_storeint (t := 3))); (exact rfl); (exact rfl); infer_instance; (first | (with_reducible assumption) | omega); intro ws _ _) | ((with_reducible apply (wpl_storebyte (t := 5))); (exact rfl); (exact rfl); infer_instance; (first | (with_reducible assumption) | omega | (focus (simp; done)) | (focus (simp; omega; done)) | decide); (constructor <;> omega); intro ws _ _))
      refine wpList_nil ?_
      unfold onlyN
      refine hK_.out _ _ inferInstance (fun _ => ?_)
      clear hK_ K_
      try simp only [Act.put]
      refine wpAnyH_done (by kernel_rfl) ?_ _
  case' br1_22 =>
    rw [if_pos (by kernel_rfl)]
    refine wpr_of_list ?_
    (first | ((with_reducible apply wpl_build); (exact kbS _ _ _ _ _ _)) | ((with_reducible apply (wpl_alloc (dst := some 6))); intro z6 wz6 _ _ _) | ((with_reducible apply wpl_alloc); intro z wz _ _ _))
    refine wpList_nil ?_
    unfold onlyN
    refine hK_.out _ _ inferInstance (fun _ => ?_)
    clear hK_ K_
    try simp only [Act.put, sA]; try simp only [sB, sC]
    refine goH (i := 13) (by kernel_rfl) rfl (fun K_ hK_ => ?_)
    go_simp
    refine (sign_calls seed used hm hc hn).mono ?_
    rw [← HS.out]
    rintro e w5 ⟨z, rfl, _, hz, _⟩
    refine hK_.out _ _ inferInstance (fun _ => ?_)
    clear hK_ K_
    try simp only [Act.put, sA]; try simp only [sB, sC]
    refine goH (i := 15) (by kernel_rfl) rfl (fun K_ hK_ => ?_)
    go_simp
    refine (leaves_calls).mono ?_
    rintro e w6 ⟨rfl, _, _, _⟩
    refine hK_.out _ _ inferInstance (fun _ => ?_)
    clear hK_ K_
    try simp only [Act.put, sA]; try simp only [sB, sC]
    refine goH (i := 20) (by kernel_rfl) rfl (fun K_ hK_ => ?_)
    go_simp
    refine (pathC used (leavesS_len seed) (by decide)).mono ?_
    rw [← HP.out]
    rintro e w7 ⟨A7, c7, rfl, _, hA7, _⟩
    refine hK_.out _ _ inferInstance (fun _ => ?_)
    clear hK_ K_
    try simp only [Act.put, sA]; try simp only [sB, sC]
    refine' takeH (i := 21) (v := _) rfl (by kernel_rfl) (by kernel_rfl) (by kernel_rfl) (fun _ _ _ h => h) (yields_ofI (by rfl) (fun w' _ => ?_)) inferInstance ?_
    rotate_left
    · (first | ((with_reducible apply ev_build); exact kbS _ _ _ _ _ _) | (go_simp; try with_reducible rfl))
    try simp only [Act.put, sA]; try simp only [sB, sC]
    refine goH (i := 23) (by kernel_rfl) rfl (fun K_ hK_ => ?_)
    rw [if_pos (by kernel_rfl)]
    refine wpr_of_list ?_
    (first | ((with_reducible apply wpl_build); (exact kbS _ _ _ _ _ _)) | ((with_reducible apply wpl_storerow); (exact rfl); (exact rfl); infer_instance; infer_instance; (first | (with_reducible assumption) | (with_reducible exact H32.size _) | kernel_rfl); (first | (with_reducible assumption) | (with_reducible exact H32.size _) | kernel_rfl); (first | (with_reducible exact u8s_one _) | (with_reducible assumption) | kernel_rfl); intro ws _ _) | ((with_reducible apply wpl_storecell); (exact rfl); (exact rfl); infer_instance; (exact rfl); (first | (with_reducible assumption) | omega | (focus (simp; done)) | (focus (simp; omega; done)) | decide); intro ws _ _) | ((with_reducible apply (wpl_storehash (t := 23))); (exact rfl); (exact rfl); infer_instance; infer_instance; (first | (with_reducible assumption) | omega | (focus (simp; done)) | (focus (simp; omega; done)) | decide); intro ws _ _) | ((with_reducible apply (wpl_storeint (t := 3))); (exact rfl); (exact rfl); infer_instance; (first | (with_reducible assumption) | omega); intro ws _ _) | ((with_reducible apply (wpl_storebyte (t := 5))); (exact rfl); (exact rfl); infer_instance; (first | (with_reducible assumption) | omega | (focus (simp; done)) | (focus (simp; omega; done)) | decide); (constructor <;> omega); intro ws _ _))
    refine wpList_nil ?_
    unfold onlyN
    refine hK_.out _ _ inferInstance (fun _ => ?_)
    clear hK_ K_
    try simp only [Act.put]
    refine wpAnyH_done (by kernel_rfl) ?_ _
  all_goals
    have hd1 : OffA (rowOf (some ⟨z, 0, none⟩)) A7 := @OffA.rowOld _ 23 32 36 36 (some ⟨z, 0, none⟩) A7 (cellsOf S) hA7 inferInstance
    have hd2 : OffA (rowOf A7) (some ⟨z, 0, none⟩) := @OffA.rowNew _ 23 32 36 36 A7 (some ⟨z, 0, none⟩) (cellsOf S) hA7 inferInstance
    have hz9 : NewA w (some ⟨z, 0, none⟩) := NewA.monoS hz
    have hA9 : NewA w A7 := NewA.monoS hA7
    go_wp2_with (first | ((with_reducible apply (wpl_kUsed (t := 3))); (exact rfl); infer_instance; infer_instance) | ((with_reducible apply (wpl_kPutU (t := 3))); (exact rfl); (exact rfl); infer_instance; infer_instance; intro ws _ _) | ((with_reducible apply wpl_alloc); intro z wz _ _ _) | ((with_reducible apply wpl_loadrow); (exact rfl); infer_instance; infer_instance; (first | (with_reducible assumption) | (with_reducible exact H32.size _) | kernel_rfl)) | ((with_reducible apply wpl_loadcellN); (exact rfl); infer_instance; (exact rfl)) | ((with_reducible apply wpl_storerow); (exact rfl); (exact rfl); infer_instance; infer_instance; (first | (with_reducible assumption) | (with_reducible exact H32.size _) | kernel_rfl); (first | (with_reducible assumption) | (with_reducible exact H32.size _) | kernel_rfl); (first | (with_reducible exact u8s_one _) | (with_reducible assumption) | kernel_rfl); intro ws _ _) | ((with_reducible apply wpl_storecell); (exact rfl); (exact rfl); infer_instance; (exact rfl); (first | (with_reducible assumption) | omega | (focus (simp; done)) | (focus (simp; omega; done)) | decide); intro ws _ _) | ((with_reducible apply (wpl_loadhash (t := 23))); (exact rfl); infer_instance; infer_instance; (first | (with_reducible assumption) | omega)) | ((with_reducible apply (wpl_storehash (t := 23))); (exact rfl); (exact rfl); infer_instance; infer_instance; (first | (with_reducible assumption) | omega | (focus (simp; done)) | (focus (simp; omega; done)) | decide); intro ws _ _) | ((with_reducible apply (wpl_loadint (t := 3))); (exact rfl); infer_instance; infer_instance; (first | (with_reducible assumption) | omega)) | ((with_reducible apply (wpl_loadbyte (t := 5))); (exact rfl); infer_instance; infer_instance; (first | (with_reducible assumption) | omega)) | ((with_reducible apply (wpl_storeint (t := 3))); (exact rfl); (exact rfl); infer_instance; (first | (with_reducible assumption) | omega); intro ws _ _) | ((with_reducible apply (wpl_storebyte (t := 5))); (exact rfl); (exact rfl); infer_instance; (first | (with_reducible assumption) | omega | (focus (simp; done)) | (focus (simp; omega; done)) | decide); (constructor <;> omega); intro ws _ _))
    refine ret_row_ rfl rfl rfl (n := 3) rfl rfl ?_
    exact ⟨z, A7, c7, rfl, stepC, inferInstance, hz9, hA9, inferInstance, inferInstance, hd1, hd2⟩
theorem ksign_calls {zk : Nat} {seed : H32} {used : Int} {A : Option Addr} {n c : Nat} {m : List UInt8} {w : World} [hk : KeyAt w zk seed used] [hr : HR w A (bs m)] (hm : m.length = n) (hc : n ≤ c) (hn : n ≤ 100000) (h0 : 0 ≤ used) (h16 : used < 16) :
    Calls Tryz.prog 33 #[.pointer (some ⟨zk, 0, none⟩), .slice A n c] w fun e w' => ∃ z A' c', e = .returned (.tuple #[.agg #[.int .i64 used, .slice (some ⟨z, 0, none⟩) 36 36, .slice A' (pathA (leavesS seed) used).length c'], .int .i64 0]) ∧ Step (only zk) w w' ∧ KeyAt w' zk seed (used + 1) ∧
      NewA w (some ⟨z, 0, none⟩) ∧ NewA w A' ∧ HO w' 23 32 (some ⟨z, 0, none⟩) 36 36 (cellsOf (signS seed used m)) ∧ HO w' 23 32 A' (pathA (leavesS seed) used).length c' (cellsOf (pathA (leavesS seed) used)) :=
  (ksignD_calls hm hc hn h0 h16).mono fun _ _ ⟨z, A', c', h1, h2, h3, h4, h5, h6, h7, _⟩ => ⟨z, A', c', h1, h2, h3, h4, h5, h6, h7⟩
end Go.Proofs.YteieielodooglaaGreat
end
section
open Go Go.RowKit
namespace Go.Proofs.YteieielodooglaaGreat
/-- a repo's cells: seed, keys, the first public, generation, version; then targets, what is handed out, the ledger -/
def rpL (sd : H32) (p0 p1 : Value) (f : H32) (g v : Int) (tl : List Value) : List Value := bs sd.l ++ (p0 :: p1 :: (bs f.l ++ (.int .i64 g :: .int .i64 v :: tl)))
def rpSuf : List Value := [.slice none 0 0, .slice none 0 0, .slice none 0 0, .slice none 0 0, .slice none 0 0, .slice none 0 0, .slice none 0 0]
def rpTl : List Value := .slice none 0 0 :: rpSuf
theorem rpL_len (sd : H32) (p0 p1 : Value) (f : H32) (g v : Int) (tl : List Value) (h : tl.length = 8) : (rpL sd p0 p1 f g v tl).length = 76 := by simp [rpL, bs_length, h]
theorem rp_get32 (sd : H32) (p0 p1 : Value) (f : H32) (g v : Int) (tl : List Value) (i : Nat) : (rpL sd p0 p1 f g v tl)[32 + i]? = (p0 :: p1 :: (bs f.l ++ (.int .i64 g :: .int .i64 v :: tl)))[i]? := by
  rw [rpL, List.getElem?_append_right (by rw [bs_length, sd.len]; omega), bs_length, sd.len, Nat.add_sub_cancel_left]
theorem rp_get68 (sd : H32) (p0 p1 : Value) (f : H32) (g v : Int) (tl : List Value) (i : Nat) : (rpL sd p0 p1 f g v tl)[68 + i]? = tl[i]? := by
  rw [show 68 + i = 32 + (((32 + (i + 2)) + 1) + 1) by omega, rp_get32, List.getElem?_cons_succ, List.getElem?_cons_succ, List.getElem?_append_right (by rw [bs_length, f.len]; omega), bs_length, f.len, Nat.add_sub_cancel_left, List.getElem?_cons_succ, List.getElem?_cons_succ]
theorem lay_app (off : Nat) (cs : Array Value) (a o b : List Value) (h : a.length = off) (h2 : o.length = cs.size) : lay off cs (a ++ (o ++ b)).toArray = (a ++ (cs.toList ++ b)).toArray := by
  apply Array.ext'
  show (a ++ (o ++ b)).take off ++ cs.toList ++ (a ++ (o ++ b)).drop (off + cs.size) = a ++ (cs.toList ++ b)
  rw [List.take_left' h, ← List.drop_drop, List.drop_left' h, List.drop_left' h2, List.append_assoc]
theorem lay_rp0 (s0 sd : H32) (p0 p1 : Value) (f : H32) (g v : Int) (tl : List Value) : lay 0 (u8s sd.l) (rpL s0 p0 p1 f g v tl).toArray = (rpL sd p0 p1 f g v tl).toArray :=
  lay_app 0 (u8s sd.l) [] (bs s0.l) _ rfl (by rw [bs_length, s0.len]; exact sd.size.symm)
theorem lay_rp32 (sd : H32) (p0 p0' p1 : Value) (f : H32) (g v : Int) (tl : List Value) : lay 32 #[p0'] (rpL sd p0 p1 f g v tl).toArray = (rpL sd p0' p1 f g v tl).toArray :=
  lay_app 32 #[p0'] (bs sd.l) [p0] _ (bsl sd) rfl
theorem lay_rp33 (sd : H32) (p0 p1 p1' : Value) (f : H32) (g v : Int) (tl : List Value) : lay 33 #[p1'] (rpL sd p0 p1 f g v tl).toArray = (rpL sd p0 p1' f g v tl).toArray := by
  have h := lay_app 33 #[p1'] (bs sd.l ++ [p0]) [p1] (bs f.l ++ (.int .i64 g :: .int .i64 v :: tl)) (by rw [List.length_append, bsl]; rfl) rfl
  rw [List.append_assoc, List.append_assoc] at h
  exact h
theorem rp_pre (sd : H32) (p0 p1 : Value) : (bs sd.l ++ [p0, p1]).length = 34 := by simp [bs_length]
theorem rp_cut (sd : H32) (p0 p1 : Value) (f : H32) (g v : Int) (tl : List Value) : rpL sd p0 p1 f g v tl = (bs sd.l ++ [p0, p1] ++ bs f.l) ++ ([.int .i64 g] ++ (.int .i64 v :: tl)) := by simp [rpL]
theorem lay_rp66 (sd : H32) (p0 p1 : Value) (f : H32) (g g' v : Int) (tl : List Value) : lay 66 #[.int .i64 g'] (rpL sd p0 p1 f g v tl).toArray = (rpL sd p0 p1 f g' v tl).toArray := by
  rw [rp_cut, rp_cut]
  exact lay_app 66 #[.int .i64 g'] (bs sd.l ++ [p0, p1] ++ bs f.l) [.int .i64 g] _ (by simp [bs_length]) rfl
theorem rp_cut34 (sd : H32) (p0 p1 : Value) (f : H32) (g v : Int) (tl : List Value) : rpL sd p0 p1 f g v tl = (bs sd.l ++ [p0, p1]) ++ (bs f.l ++ (.int .i64 g :: .int .i64 v :: tl)) := by simp [rpL]
theorem lay_rp34 (sd : H32) (p0 p1 : Value) (f f' : H32) (g v : Int) (tl : List Value) : lay 34 (u8s f'.l) (rpL sd p0 p1 f g v tl).toArray = (rpL sd p0 p1 f' g v tl).toArray := by
  rw [rp_cut34, rp_cut34]
  exact lay_app 34 (u8s f'.l) (bs sd.l ++ [p0, p1]) (bs f.l) _ (rp_pre sd p0 p1) (by rw [bs_length, f.len]; exact f'.size.symm)
theorem run_newRp (sd : H32) (a0 a1 : Option Addr) (w : World) : (Instr.build 73 #[(0, .agg (u8s sd.l)), (1, .pointer a0), (2, .pointer a1), (4, .int .i64 1)]).run Tryz.prog w = .ok (.agg (rpL sd (.pointer a0) (.pointer a1) zeroH 1 0 rpTl).toArray) w := by
  refine run_build_struct Tryz.underlying73 (zv := .agg (rpL zeroH (.pointer none) (.pointer none) zeroH 0 0 rpTl).toArray) (fun _ => by kernel_rfl) (places := #[(0, 32), (32, 1), (33, 1), (34, 32), (66, 1), (67, 1), (68, 1), (69, 6), (75, 1)]) (fun _ => by kernel_rfl) ?_ w
  have hl : ∀ s p0 p1 f g v, (rpL s p0 p1 f g v rpTl).toArray.size = 76 := fun s p0 p1 f g v => rpL_len s p0 p1 f g v rpTl rfl
  show Instr.fill _ (rpL zeroH (.pointer none) (.pointer none) zeroH 0 0 rpTl).toArray [(0, .agg (u8s sd.l)), (1, .pointer a0), (2, .pointer a1), (4, .int .i64 1)] = _
  rw [fill_step _ _ 0 _ _ (off := 0) (size := 32) rfl (by show (u8s sd.l).size = 32; exact sd.size) (by rw [hl]; decide)]
  rw [show lay 0 (Value.agg (u8s sd.l)).cells (rpL zeroH (.pointer none) (.pointer none) zeroH 0 0 rpTl).toArray = (rpL sd (.pointer none) (.pointer none) zeroH 0 0 rpTl).toArray from lay_rp0 zeroH sd _ _ _ _ _ _]
  rw [fill_step _ _ 1 _ _ (off := 32) (size := 1) rfl rfl (by rw [hl]; decide)]
  rw [show lay 32 (Value.pointer a0).cells (rpL sd (.pointer none) (.pointer none) zeroH 0 0 rpTl).toArray = (rpL sd (.pointer a0) (.pointer none) zeroH 0 0 rpTl).toArray from lay_rp32 _ _ _ _ _ _ _ _]
  rw [fill_step _ _ 2 _ _ (off := 33) (size := 1) rfl rfl (by rw [hl]; decide)]
  rw [show lay 33 (Value.pointer a1).cells (rpL sd (.pointer a0) (.pointer none) zeroH 0 0 rpTl).toArray = (rpL sd (.pointer a0) (.pointer a1) zeroH 0 0 rpTl).toArray from lay_rp33 _ _ _ _ _ _ _ _]
  rw [fill_step _ _ 4 _ _ (off := 66) (size := 1) rfl rfl (by rw [hl]; decide)]
  rw [show lay 66 (Value.int .i64 1).cells (rpL sd (.pointer a0) (.pointer a1) zeroH 0 0 rpTl).toArray = (rpL sd (.pointer a0) (.pointer a1) zeroH 1 0 rpTl).toArray from lay_rp66 _ _ _ _ _ _ _ _]
  rfl
/-- the seed of the key of this generation -/
def kSeed (sd : H32) (g : Int) : H32 := shaH (sd.l ++ [b8 g])
theorem run_gen (g : Int) (w : World) : (Instr.buildSlice 29 1 #[(0, .int .u8 (g % 256))]).run Tryz.prog w = .ok (.slice (some ⟨w.heap.size, 0, none⟩) 1 1) (w.alloc (.cells (u8s [b8 g]) 5)) := by rw [mod_b8]; kernel_rfl
set_option maxRecDepth 100000 in
set_option maxHeartbeats 1600000 in
theorem keyOf_calls (sd : H32) (g : Int) (w : World) :
    Calls Tryz.prog 30 #[.agg (u8s sd.l), .int .i64 g] w fun e w' => ∃ zk, e = .returned (.pointer (some ⟨zk, 0, none⟩)) ∧ Step nowhere w w' ∧ NewB w zk ∧ KeyAt w' zk (kSeed sd g) 0 := by
  have kb := run_gen g
  go_enter Tryz.func30, Tryz.ntmps30
  go_wp2_with (first | ((with_reducible apply wpl_bslice); (exact kb _); intro zb wb _ _ _) | ((with_reducible apply (wpl_box_agg (dst := some 2))); (exact rfl); intro zs wzs _ _ _) | ((with_reducible apply (wpl_box_int (dst := some 2))); (exact rfl); intro zs wzs _ _ _) | ((with_reducible apply (wpl_box_slice (dst := some 2))); (exact rfl); intro zs wzs _ _ _) | ((with_reducible apply (wpl_box_str (dst := some 2))); (exact rfl); intro zs wzs _ _ _) | ((with_reducible apply (wpl_box_bool (dst := some 2))); (exact rfl); intro zs wzs _ _ _) | ((with_reducible apply (wpl_box_ptr (dst := some 2))); (exact rfl); intro zs wzs _ _ _) | ((with_reducible apply wpl_box_agg); (exact rfl); intro z wz _ _ _) | ((with_reducible apply wpl_box_int); (exact rfl); intro z wz _ _ _) | ((with_reducible apply wpl_box_slice); (exact rfl); intro z wz _ _ _) | ((with_reducible apply wpl_box_str); (exact rfl); intro z wz _ _ _) | ((with_reducible apply wpl_box_bool); (exact rfl); intro z wz _ _ _) | ((with_reducible apply wpl_box_ptr); (exact rfl); intro z wz _ _ _) | ((with_reducible apply wpl_loadrow); (exact rfl); infer_instance; infer_instance; (first | (with_reducible assumption) | (with_reducible exact H32.size _) | kernel_rfl)) | ((with_reducible apply wpl_loadcellN); (exact rfl); infer_instance; (exact rfl)))
  refine (link_calls sd.l (some ⟨zb, 0, none⟩) 1 1 [b8 g] _ sd.len (by have h := (inferInstance : HR wb (some (⟨zb, 0, none⟩ : Addr)) (bs [b8 g])).out; exact h) rfl (by decide)).mono ?_
  rintro e w5 ⟨rfl, hc5⟩
  have st5 : Step nowhere wb w5 := ⟨hc5.out⟩
  clear hc5
  go_wp2_with (first | ((with_reducible apply wpl_box_agg); (exact rfl); intro z wz _ _ _) | ((with_reducible apply wpl_box_int); (exact rfl); intro z wz _ _ _) | ((with_reducible apply wpl_box_slice); (exact rfl); intro z wz _ _ _) | ((with_reducible apply wpl_box_str); (exact rfl); intro z wz _ _ _) | ((with_reducible apply wpl_box_bool); (exact rfl); intro z wz _ _ _) | ((with_reducible apply wpl_box_ptr); (exact rfl); intro z wz _ _ _) | ((with_reducible apply wpl_loadrow); (exact rfl); infer_instance; infer_instance; (first | (with_reducible assumption) | (with_reducible exact H32.size _) | kernel_rfl)) | ((with_reducible apply wpl_loadcellN); (exact rfl); infer_instance; (exact rfl)))
  refine (new_calls (kSeed sd g) 0 _).mono ?_
  rintro e w6 ⟨zk, rfl, st6, hz, hk⟩
  go_wp2_with (first | ((with_reducible apply wpl_box_agg); (exact rfl); intro z wz _ _ _) | ((with_reducible apply wpl_box_int); (exact rfl); intro z wz _ _ _) | ((with_reducible apply wpl_box_slice); (exact rfl); intro z wz _ _ _) | ((with_reducible apply wpl_box_str); (exact rfl); intro z wz _ _ _) | ((with_reducible apply wpl_box_bool); (exact rfl); intro z wz _ _ _) | ((with_reducible apply wpl_box_ptr); (exact rfl); intro z wz _ _ _) | ((with_reducible apply wpl_loadrow); (exact rfl); infer_instance; infer_instance; (first | (with_reducible assumption) | (with_reducible exact H32.size _) | kernel_rfl)) | ((with_reducible apply wpl_loadcellN); (exact rfl); infer_instance; (exact rfl)))
  go_ret
  refine ⟨zk, rfl, stepN, ⟨?_⟩, hk⟩
  exact Nat.le_trans (stepN (w0 := w) (w := w5)).chg.size hz.out
end Go.Proofs.YteieielodooglaaGreat
end
section
open Go Go.RowKit
namespace Go.Proofs.YteieielodooglaaGreat
theorem nilTgs (A : Option Addr) (n c : Nat) (w : World) : (binOp .eql 40 (.slice A n c) (.slice none 0 0)).run Tryz.prog w = .ok (.bool A.isNone) w :=
  Lib.run_eql_slice_nil w 40 42 A n c 0 0 Tryz.underlying40
attribute [local go_sem] nilTgs
/-- a list of it alone may be -/
def mayL : List UInt8 := [116, 111, 112]
def mayR (t : TargetR) : Bool := tgsOk mayL 1 0 [t] []
end Go.Proofs.YteieielodooglaaGreat
end
section
open Go Go.RowKit
namespace Go.Proofs.YteieielodooglaaGreat
theorem run_emB (w : World) : (Instr.buildSlice 29 0 #[]).run Tryz.prog w = .ok (.slice (some ⟨w.heap.size, 0, none⟩) 0 0) (w.alloc (.cells (u8s []) 5)) := by kernel_rfl
theorem run_emH (w : World) : (Instr.buildSlice 50 0 #[]).run Tryz.prog w = .ok (.slice (some ⟨w.heap.size, 0, none⟩) 0 0) (w.alloc (.cells #[] 23)) := by kernel_rfl
theorem run_emM (w : World) : (Instr.buildSlice 30 0 #[]).run Tryz.prog w = .ok (.slice (some ⟨w.heap.size, 0, none⟩) 0 0) (w.alloc (.cells #[] 134)) := by kernel_rfl
theorem nilRB (A : Option Addr) (n c : Nat) (w : World) : (binOp .eql 29 (.slice A n c) (.slice none 0 0)).run Tryz.prog w = .ok (.bool A.isNone) w :=
  Lib.run_eql_slice_nil w 29 5 A n c 0 0 Tryz.underlying29
theorem nilRH (A : Option Addr) (n c : Nat) (w : World) : (binOp .eql 50 (.slice A n c) (.slice none 0 0)).run Tryz.prog w = .ok (.bool A.isNone) w :=
  Lib.run_eql_slice_nil w 50 23 A n c 0 0 Tryz.underlying50
theorem nilRM (A : Option Addr) (n c : Nat) (w : World) : (binOp .eql 30 (.slice A n c) (.slice none 0 0)).run Tryz.prog w = .ok (.bool A.isNone) w :=
  Lib.run_eql_slice_nil w 30 134 A n c 0 0 Tryz.underlying30
attribute [local go_sem] nilRB nilRH nilRM
instance factNilR : Fact' (([] : List UInt8).length ≤ maxLen) := ⟨Nat.zero_le _⟩
theorem nil_of_none {w : World} {vs : List Value} (h : Rd w none vs) : vs = [] := by
  cases vs with
  | nil => rfl
  | cons x l =>
    obtain ⟨ad, h, _⟩ := h.lt (by simp)
    cases h
theorem HO.ofEH (w : World) (z : Nat) [h : HB w z 23 #[]] : HO w 23 32 (some ⟨z, 0, none⟩) 0 0 (cellsOf ([] : List H32)) := ⟨Own.of_blk h.out (Nat.le_refl _) (Nat.zero_le _) (by simp) (by simp [cellsOf])⟩
theorem HO.ofEM (w : World) (z : Nat) [h : HB w z 134 #[]] : HO w 134 35 (some ⟨z, 0, none⟩) 0 0 (cellsOf ([] : List MarkR)) := ⟨Own.of_blk h.out (Nat.le_refl _) (Nat.zero_le _) (by simp) (by simp [cellsOf])⟩
set_option maxRecDepth 100000 in
set_option maxHeartbeats 1600000 in
theorem cloneBy_calls {A : Option Addr} {n c : Nat} {l : List UInt8} {w : World} [h : HR w A (bs l)] (hl : l.length = n) (hm : n ≤ 1000000) :
    Calls Tryz.prog 75 #[.slice A n c] w fun e w' => ∃ A' c', e = .returned (.slice A' n c') ∧ Step nowhere w w' ∧ HO w' 5 1 A' n c' (bs l) ∧ NewA w A' := by
  cases A with
  | none =>
    have h0 := nil_of_none h.out
    have hx : l = [] := by
      have h1 := congrArg List.length h0
      rw [bs_length] at h1
      cases l with
      | nil => rfl
      | cons x l => simp at h1
    subst hx
    subst hl
    go_enter Tryz.func75, Tryz.ntmps75
    go_wp2_with fail
    go_ret
    exact ⟨none, 0, rfl, stepN, ⟨Own.nil _ _ _⟩, newA_none _⟩
  | some ad =>
    go_enter Tryz.func75, Tryz.ntmps75
    go_wp2_with (first | ((with_reducible apply (stop_dst (dst := some 5))); (try simp only [Act.put, sA, sB, sC]); ((with_reducible apply (wpl_bslice (dst := some 5))); (exact run_emB _); intro zb wb _ _ _)) | ((with_reducible apply wpl_appendB); (exact rfl); (exact rfl); infer_instance; infer_instance; infer_instance; (exact hl); omega; intro A' c' wa _ ho _ hcap))
    go_ret
    exact ⟨A', c', by simp, stepN, ⟨by have h5 := ho.out; simpa using h5⟩, inferInstance⟩
set_option maxRecDepth 100000 in
set_option maxHeartbeats 1600000 in
theorem cloneHs_calls {A : Option Addr} {n c : Nat} {l : List H32} {w : World} [h : HR w A (cellsOf l)] (hl : l.length = n) (hm : n ≤ 1000000) :
    Calls Tryz.prog 77 #[.slice A n c] w fun e w' => ∃ A' c', e = .returned (.slice A' n c') ∧ Step nowhere w w' ∧ HO w' 23 32 A' n c' (cellsOf l) ∧ NewA w A' := by
  cases A with
  | none =>
    have h0 := nil_of_none h.out
    have hx : l = [] := by
      have h1 := congrArg List.length h0
      rw [cellsOf_len] at h1
      cases l with
      | nil => rfl
      | cons x l => simp at h1
    subst hx
    subst hl
    go_enter Tryz.func77, Tryz.ntmps77
    go_wp2_with fail
    go_ret
    exact ⟨none, 0, rfl, stepN, ⟨Own.nil _ _ _⟩, newA_none _⟩
  | some ad =>
    go_enter Tryz.func77, Tryz.ntmps77
    go_wp2_with (first | ((with_reducible apply (stop_dst (dst := some 5))); (try simp only [Act.put, sA, sB, sC]); ((with_reducible apply (wpl_bslice (dst := some 5))); (exact run_emH _); intro zb wb _ _ _)) | ((with_reducible apply (wpl_appendR (α := H32))); (exact rfl); (exact rfl); infer_instance; (exact HO.ofEH _ _); infer_instance; (exact rfl); (exact hl); omega; (decide); (decide); intro A' c' wa _ ho _ hcap))
    go_ret
    exact ⟨A', c', by simp, stepN, ⟨by have h5 := ho.out; simpa using h5⟩, inferInstance⟩
set_option maxRecDepth 100000 in
set_option maxHeartbeats 1600000 in
theorem cloneMs_calls {A : Option Addr} {n c : Nat} {l : List MarkR} {w : World} [h : HR w A (cellsOf l)] (hl : l.length = n) (hm : n ≤ 1000000) :
    Calls Tryz.prog 76 #[.slice A n c] w fun e w' => ∃ A' c', e = .returned (.slice A' n c') ∧ Step nowhere w w' ∧ HO w' 134 35 A' n c' (cellsOf l) ∧ NewA w A' := by
  cases A with
  | none =>
    have h0 := nil_of_none h.out
    have hx : l = [] := by
      have h1 := congrArg List.length h0
      rw [cellsOf_len] at h1
      cases l with
      | nil => rfl
      | cons x l => simp at h1
    subst hx
    subst hl
    go_enter Tryz.func76, Tryz.ntmps76
    go_wp2_with fail
    go_ret
    exact ⟨none, 0, rfl, stepN, ⟨Own.nil _ _ _⟩, newA_none _⟩
  | some ad =>
    go_enter Tryz.func76, Tryz.ntmps76
    go_wp2_with (first | ((with_reducible apply (stop_dst (dst := some 5))); (try simp only [Act.put, sA, sB, sC]); ((with_reducible apply (wpl_bslice (dst := some 5))); (exact run_emM _); intro zb wb _ _ _)) | ((with_reducible apply (wpl_appendR (α := MarkR))); (exact rfl); (exact rfl); infer_instance; (exact HO.ofEM _ _); infer_instance; (exact rfl); (exact hl); omega; (decide); (decide); intro A' c' wa _ ho _ hcap))
    go_ret
    exact ⟨A', c', by simp, stepN, ⟨by have h5 := ho.out; simpa using h5⟩, inferInstance⟩
end Go.Proofs.YteieielodooglaaGreat
end
