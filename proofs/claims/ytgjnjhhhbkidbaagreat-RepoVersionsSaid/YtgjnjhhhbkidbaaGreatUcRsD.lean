/- KyE, RpK, RpC, RpN, RpD, DrS, RpE, RlB, RlC, RlM, RlD, RsA, RsB, RsC, RsD -/
import Derived.Test.YtgjnjhhhbkidbaaGreatUcQmR
import Derived.Test.YtgjnjhhhbkidbaaGreatUcRpB
import Derived.Test.YtgjnjhhhbkidbaaGreatUcFwC
import Derived.Test.YtgjnjhhhbkidbaaGreatUcWsB
import Derived.Test.YtgjnjhhhbkidbaaGreatUcRlA
import Derived.ArgAppend
section
open Go Go.RowKit
namespace Go.Proofs.YtgjnjhhhbkidbaaGreat
set_option maxRecDepth 100000 in
set_option maxHeartbeats 1600000 in
theorem leaves_calls {zk : Nat} {seed : H32} {used : Int} {w : World} [hk : KeyAt w zk seed used] :
    Calls Tryz.prog 57 #[.pointer (some ⟨zk, 0, none⟩)] w fun e w' => e = .returned (.slice (some ⟨zk, 34, none⟩) 16 16) ∧ Step (only zk) w w' ∧ KeyAt w' zk seed used ∧ HR w' (some ⟨zk, 34, none⟩) (cellsOf (leavesS seed)) := by
 obtain ⟨gr, tree, hl, hg, hb⟩ := hk.out
 cases gr with
 | true =>
  obtain rfl := hg rfl
  have HG := Lib.hid hg
  have HL := Lib.hid hl
  clear hk hg hl
  go_enter Tryz.func57, Tryz.ntmps57
  go_wp2_with (first | ((with_reducible apply (wpl_kGrown (t := 4))); exact rfl; infer_instance; infer_instance) | ((with_reducible apply (wpl_sliceAr (t := 122) (s := 32))); exact rfl; exact Tryz.underlying122; (kernel_rfl)))
  go_ret
  exact ⟨rfl, stepC, ⟨true, leavesS seed, HL.out, fun _ => rfl, hb⟩, HR.keyTree hb⟩
 | false =>
  have HL := Lib.hid hl
  clear hk hg hl
  go_enter Tryz.func57, Tryz.ntmps57
  go_wp2_with (first | ((with_reducible apply (wpl_kGrown (t := 4))); exact rfl; infer_instance; infer_instance))
  go_loopw [9] (fun kv wr => ∃ (k : Nat) (tr : List H32), k ≤ 16 ∧ kv = .int .i64 (k : Int) ∧ Hid (tr.length = 16) ∧ Hid (∀ j, j < k → hget tr j = publicS seed (j : Int)) ∧ Step (only zk) w wr ∧ HB wr zk 124 (keyL seed used false tr).toArray) (fun kv _ => 16 - (intOf kv).toNat)
  case atStart => exact ⟨0, tree, by decide, rfl, HL, Lib.hid (fun j hj => by omega), stepC, inferInstance⟩
  case round =>
   obtain ⟨k, tr, hk, rfl, HT, HJ, _, hbk⟩ := hrel
   have hka : KeyAt wr zk seed used := ⟨false, tr, HT.out, (fun h => by cases h), hbk⟩
   by_cases hlt : k < 16
   · have hltI : (k : Int) < 16 := by omega
     go_wp2_with fail
     refine wp_region_N ((only zk)) (by kernel_rfl) (fun wd _ _ => ?_)
     refine' tk 0 _ rfl (by kernel_rfl) (by kernel_rfl) (by kernel_rfl) (fun _ _ _ h => h) (yo (by rfl) fun w' _ => ?_) inferInstance ?_
     rotate_left
     · (go_simp; try with_reducible rfl)
     try simp only [Act.put, sA, sB, sC]
     refine' tk 1 _ rfl (by kernel_rfl) (by kernel_rfl) (by kernel_rfl) (fun _ _ _ h => h) (yo (by rfl) fun w' _ => ?_) inferInstance ?_
     rotate_left
     · (go_simp; try with_reducible rfl)
     try simp only [Act.put, sA, sB, sC]
     refine' tk 2 _ rfl (by kernel_rfl) (by kernel_rfl) (by kernel_rfl) (fun _ _ _ h => h) (yo (by rfl) fun w' _ => ?_) inferInstance ?_
     rotate_left
     · (go_simp; try with_reducible rfl)
     try simp only [Act.put, sA, sB, sC]
     refine' tk 3 _ rfl (by kernel_rfl) (by kernel_rfl) (by kernel_rfl) (fun _ _ _ h => h) (yo (by rfl) fun w' _ => ?_) inferInstance ?_
     rotate_left
     · (go_simp; try with_reducible rfl)
     try simp only [Act.put, sA, sB, sC]
     refine' tk 4 _ rfl (by kernel_rfl) (by kernel_rfl) (by kernel_rfl) (fun _ _ _ h => h) (yo (by rfl) fun w' _ => ?_) inferInstance ?_
     rotate_left
     · (go_simp; try with_reducible rfl)
     try simp only [Act.put, sA, sB, sC]
     refine' tk 6 _ rfl (by kernel_rfl) (by kernel_rfl) (by kernel_rfl) (fun _ _ _ h => h) (yo (by rfl) fun w' _ => ?_) inferInstance ?_
     rotate_left
     · (go_simp; try with_reducible rfl)
     try simp only [Act.put, sA, sB, sC]
     refine' tk 8 _ rfl (by kernel_rfl) (by kernel_rfl) (by kernel_rfl) (fun _ _ _ h => h) (yo (by rfl) fun w' _ => ?_) inferInstance ?_
     rotate_left
     · (go_simp; try with_reducible rfl)
     try simp only [Act.put, sA, sB, sC]
     refine' tk 9 _ rfl (by kernel_rfl) (by kernel_rfl) (by kernel_rfl) (fun _ _ _ h => h) (yo (by rfl) fun w' _ => ?_) inferInstance ?_
     rotate_left
     · (go_simp; try with_reducible rfl)
     try simp only [Act.put, sA, sB, sC]
     refine goH (i := 5) (by kernel_rfl) rfl (fun K_ hK_ => ?_)
     rw [if_pos (by kernel_rfl)]
     refine wpr_of_list ?_
     ((with_reducible apply (wpl_kSeed (t := 23))); exact rfl; infer_instance; infer_instance)
     refine wpList_nil ?_
     unfold onlyN
     refine hK_.out _ _ inferInstance (fun _ => ?_)
     clear hK_ K_
     try simp only [Act.put, sA, sB, sC]
     refine goH (i := 7) (by kernel_rfl) rfl (fun K_ hK_ => ?_)
     go_simp
     refine (public_calls seed (k : Int) _).mono ?_
     rintro e w5 ⟨rfl, _⟩
     refine hK_.out _ _ inferInstance (fun _ => ?_)
     clear hK_ K_
     try simp only [Act.put, sA, sB, sC]
     refine goH (i := 10) (by kernel_rfl) rfl (fun K_ hK_ => ?_)
     rw [if_pos (by kernel_rfl)]
     refine wpr_of_list ?_
     ((with_reducible apply (wpl_indexAr (t := 122) (s := 32))); exact rfl; exact rfl; exact Tryz.underlying122; (kernel_rfl); (first | (with_reducible assumption) | omega))
     refine wpList_nil ?_
     unfold onlyN
     refine hK_.out _ _ inferInstance (fun _ => ?_)
     clear hK_ K_
     try simp only [Act.put, sA, sB, sC]
     refine goH (i := 11) (by kernel_rfl) rfl (fun K_ hK_ => ?_)
     rw [if_pos (by kernel_rfl)]
     refine wpr_of_list ?_
     ((with_reducible apply (wpl_kPutT (t := 23))); exact rfl; exact rfl; infer_instance; infer_instance; exact HT.out; (first | (with_reducible assumption) | omega); intro ws _ _)
     refine wpList_nil ?_
     unfold onlyN
     refine hK_.out _ _ inferInstance (fun _ => ?_)
     clear hK_ K_
     try simp only [Act.put]
     refine wpAnyH_done (by kernel_rfl) ?_ _
     go_wp2_with fail
     refine ⟨⟨k + 1, tr.set k (publicS seed (k : Int)), by omega, by go_num, Lib.hid (by rw [List.length_set]; exact HT.out), Lib.hid (fun j hj => ?_), stepC, inferInstance⟩, by simp [intOf]; omega⟩
     by_cases hjk : j = k
     · subst hjk
       have h16 := HT.out
       simp [hget, List.getD_eq_getElem?_getD, h16, hlt]
     · have := HJ.out j (by omega)
       rw [← this]
       simp [hget, List.getD_eq_getElem?_getD, Ne.symm hjk]
   · have hltI : ¬ (k : Int) < 16 := by omega
     have htr : tr = leavesS seed := by
      refine hget_ext (by rw [HT.out, leavesS_len]) (fun i hi => ?_)
      rw [HJ.out i (by have := HT.out; omega)]
      have : i < 16 := by have := HT.out; omega
      simp [hget, leavesS, List.getD_eq_getElem?_getD, this]
     subst htr
     go_wp2_with (first | ((with_reducible apply (wpl_kPutG (t := 4))); exact rfl; exact rfl; infer_instance; infer_instance; exact HT.out; intro ws _ _) | ((with_reducible apply (wpl_sliceAr (t := 122) (s := 32))); exact rfl; exact Tryz.underlying122; (kernel_rfl)))
     go_ret
     have hb9 : HB ws zk 124 (keyL seed used true (leavesS seed)).toArray := inferInstance
     exact ⟨rfl, stepC, ⟨true, leavesS seed, HT.out, fun _ => rfl, hb9⟩, HR.keyTree hb9⟩
def pubS (seed : H32) : H32 := nameS (rootL (leavesS seed))
set_option maxRecDepth 100000 in
theorem kpublic_calls {zk : Nat} {seed : H32} {used : Int} {w : World} [hk : KeyAt w zk seed used] :
    Calls Tryz.prog 24 #[.pointer (some ⟨zk, 0, none⟩)] w fun e w' => e = .returned (.agg (u8s (pubS seed).l)) ∧ Step (only zk) w w' ∧ KeyAt w' zk seed used := by
 obtain ⟨U, hU⟩ : ∃ U, U = rootL (leavesS seed) := ⟨_, rfl⟩
 obtain ⟨N, hN⟩ : ∃ N, N = pubS seed := ⟨_, rfl⟩
 have hNU : N = nameS U := by rw [hN, hU]; rfl
 have HU := Lib.hid hU
 have HN := Lib.hid hNU
 rw [← hN]
 clear hU hN hNU
 go_enter Tryz.func24, Tryz.ntmps24
 go_wp2_with (first | ((with_reducible apply (wpl_alloc (dst := some 2))); intro zo wzo _ _ _))
 refine (leaves_calls).mono ?_
 rintro e w1 ⟨rfl, _, _, _⟩
 go_wp2_with fail
 refine (rootC (leavesS_len seed) (by decide)).mono ?_
 rw [← HU.out]
 rintro e w2 ⟨rfl, _⟩
 go_wp2_with fail
 refine (name_calls U _).mono ?_
 rw [← HN.out]
 rintro e w3 ⟨rfl, _⟩
 go_wp2_with (first | ((with_reducible apply wpl_storerow); exact rfl; exact rfl; infer_instance; infer_instance; (first | (with_reducible assumption) | (with_reducible exact H32.size _) | kernel_rfl); (first | (with_reducible assumption) | (with_reducible exact H32.size _) | kernel_rfl); (first | (with_reducible exact u8s_one _) | (with_reducible assumption) | kernel_rfl); intro ws _ _))
 exact ret_row rfl rfl (n := 32) (H32.size _) rfl ⟨rfl, stepC, inferInstance⟩
set_option maxRecDepth 100000 in
set_option maxHeartbeats 3200000 in
theorem ksignD_calls {zk : Nat} {seed : H32} {used : Int} {A : Option Addr} {n c : Nat} {m : List UInt8} {w : World} [hk : KeyAt w zk seed used] [hr : HR w A (bs m)] (hm : m.length = n) (hc : n ≤ c) (hn : n ≤ 100000) (h0 : 0 ≤ used) (h16 : used < 16) :
    Calls Tryz.prog 26 #[.pointer (some ⟨zk, 0, none⟩), .slice A n c] w fun e w' => ∃ z A' c', e = .returned (.tuple #[.agg #[.int .i64 used, .slice (some ⟨z, 0, none⟩) 36 36, .slice A' (pathA (leavesS seed) used).length c'], .int .i64 0]) ∧ Step (only zk) w w' ∧ KeyAt w' zk seed (used + 1) ∧
     NewA w (some ⟨z, 0, none⟩) ∧ NewA w A' ∧ HO w' 23 32 (some ⟨z, 0, none⟩) 36 36 (cellsOf (signS seed used m)) ∧ HO w' 23 32 A' (pathA (leavesS seed) used).length c' (cellsOf (pathA (leavesS seed) used)) ∧ OffA (rowOf (some ⟨z, 0, none⟩)) A' ∧ OffA (rowOf A') (some ⟨z, 0, none⟩) := by
 have kbS : ∀ (u : Int) (z : Nat) (B : Option Addr) (k d : Nat) w, (Instr.build 126 #[(0, .int .i64 u), (1, .slice (some ⟨z, 0, none⟩) 36 36), (2, .slice B k d)]).run Tryz.prog w = .ok (.agg #[.int .i64 u, .slice (some ⟨z, 0, none⟩) 36 36, .slice B k d]) w := fun _ _ _ _ _ _ => by kernel_rfl
 obtain ⟨S, hS⟩ : ∃ S, S = signS seed used m := ⟨_, rfl⟩
 obtain ⟨Pa, hP⟩ : ∃ Pa, Pa = pathA (leavesS seed) used := ⟨_, rfl⟩
 have HS := Lib.hid hS
 have HP := Lib.hid hP
 rw [← hS, ← hP]
 clear hS hP
 go_enter Tryz.func26, Tryz.ntmps26
 go_wp2_with (first | ((with_reducible apply (wpl_kUsed (t := 3))); exact rfl; infer_instance; infer_instance) | ((with_reducible apply (wpl_alloc (dst := some 4))); intro zo wzo _ _ _))
 refine wp_region_I (KI zk seed used) ((only zk)) (by kernel_rfl) inferInstance (fun wd _ _ => ?_)
 refine' takeH (i := 0) (v := _) rfl (by kernel_rfl) (by kernel_rfl) (by kernel_rfl) (fun _ _ _ h => h) (yields_ofI (by rfl) (fun w' _ => ?_)) inferInstance ?_
 rotate_left
 · (go_simp; try with_reducible rfl)
 try simp only [Act.put, sA, sB, sC]
 refine' takeH (i := 1) (v := _) rfl (by kernel_rfl) (by kernel_rfl) (by kernel_rfl) (fun _ _ _ h => h) (yields_ofI (by rfl) (fun w' _ => ?_)) inferInstance ?_
 rotate_left
 · (go_simp; try with_reducible rfl)
 try simp only [Act.put, sA, sB, sC]
 refine' takeH (i := 2) (v := _) rfl (by kernel_rfl) (by kernel_rfl) (by kernel_rfl) (fun _ _ _ h => h) (yields_ofI (by rfl) (fun w' _ => ?_)) inferInstance ?_
 rotate_left
 · (go_simp; try with_reducible rfl)
 try simp only [Act.put, sA, sB, sC]
 refine' takeH (i := 3) (v := _) rfl (by kernel_rfl) (by kernel_rfl) (by kernel_rfl) (fun _ _ _ h => h) (yields_ofI (by rfl) (fun w' _ => ?_)) inferInstance ?_
 rotate_left
 · ((apply (ev_loadKUsed (t := 3))); exact rfl; infer_instance; infer_instance)
 try simp only [Act.put, sA, sB, sC]
 refine' takeH (i := 4) (v := _) rfl (by kernel_rfl) (by kernel_rfl) (by kernel_rfl) (fun _ _ _ h => h) (yields_ofI (by rfl) (fun w' _ => ?_)) inferInstance ?_
 rotate_left
 · (go_simp; try with_reducible rfl)
 try simp only [Act.put, sA, sB, sC]
 refine' takeH (i := 5) (v := _) rfl (by kernel_rfl) (by kernel_rfl) (by kernel_rfl) (fun _ _ _ h => h) (yields_ofI (by rfl) (fun w' _ => ?_)) inferInstance ?_
 rotate_left
 · (go_simp; try with_reducible rfl)
 try simp only [Act.put, sA, sB, sC]
 refine' takeH (i := 6) (v := _) rfl (by kernel_rfl) (by kernel_rfl) (by kernel_rfl) (fun _ _ _ h => h) (yields_ofI (by rfl) (fun w' _ => ?_)) inferInstance ?_
 rotate_left
 · (go_simp; try with_reducible rfl)
 try simp only [Act.put, sA, sB, sC]
 refine' takeH (i := 7) (v := _) rfl (by kernel_rfl) (by kernel_rfl) (by kernel_rfl) (fun _ _ _ h => h) (yields_ofI (by rfl) (fun w' _ => ?_)) inferInstance ?_
 rotate_left
 · ((apply (ev_loadKSeed (t := 23))); exact rfl; infer_instance; infer_instance)
 try simp only [Act.put, sA, sB, sC]
 refine' takeH (i := 8) (v := _) rfl (by kernel_rfl) (by kernel_rfl) (by kernel_rfl) (fun _ _ _ h => h) (yields_ofI (by rfl) (fun w' _ => ?_)) inferInstance ?_
 rotate_left
 · (go_simp; try with_reducible rfl)
 try simp only [Act.put, sA, sB, sC]
 refine' takeH (i := 9) (v := _) rfl (by kernel_rfl) (by kernel_rfl) (by kernel_rfl) (fun _ _ _ h => h) (yields_ofI (by rfl) (fun w' _ => ?_)) inferInstance ?_
 rotate_left
 · (go_simp; try with_reducible rfl)
 try simp only [Act.put, sA, sB, sC]
 refine' takeH (i := 10) (v := _) rfl (by kernel_rfl) (by kernel_rfl) (by kernel_rfl) (fun _ _ _ h => h) (yields_ofI (by rfl) (fun w' _ => ?_)) inferInstance ?_
 rotate_left
 · (go_simp; try with_reducible rfl)
 try simp only [Act.put, sA, sB, sC]
 refine' takeH (i := 11) (v := _) rfl (by kernel_rfl) (by kernel_rfl) (by kernel_rfl) (fun _ _ _ h => h) (yields_ofI (by rfl) (fun w' _ => ?_)) inferInstance ?_
 rotate_left
 · ((apply (ev_loadKUsed (t := 3))); exact rfl; infer_instance; infer_instance)
 try simp only [Act.put, sA, sB, sC]
 refine' takeH (i := 12) (v := _) rfl (by kernel_rfl) (by kernel_rfl) (by kernel_rfl) (fun _ _ _ h => h) (yields_ofI (by rfl) (fun w' _ => ?_)) inferInstance ?_
 rotate_left
 · (go_simp; try with_reducible rfl)
 try simp only [Act.put, sA, sB, sC]
 refine' takeH (i := 14) (v := _) rfl (by kernel_rfl) (by kernel_rfl) (by kernel_rfl) (fun _ _ _ h => h) (yields_ofI (by rfl) (fun w' _ => ?_)) inferInstance ?_
 rotate_left
 · (go_simp; try with_reducible rfl)
 try simp only [Act.put, sA, sB, sC]
 refine' takeH (i := 16) (v := _) rfl (by kernel_rfl) (by kernel_rfl) (by kernel_rfl) (fun _ _ _ h => h) (yields_ofI (by rfl) (fun w' _ => ?_)) inferInstance ?_
 rotate_left
 · (go_simp; try with_reducible rfl)
 try simp only [Act.put, sA, sB, sC]
 refine' takeH (i := 17) (v := _) rfl (by kernel_rfl) (by kernel_rfl) (by kernel_rfl) (fun _ _ _ h => h) (yields_ofI (by rfl) (fun w' _ => ?_)) inferInstance ?_
 rotate_left
 · (go_simp; try with_reducible rfl)
 try simp only [Act.put, sA, sB, sC]
 refine' takeH (i := 18) (v := _) rfl (by kernel_rfl) (by kernel_rfl) (by kernel_rfl) (fun _ _ _ h => h) (yields_ofI (by rfl) (fun w' _ => ?_)) inferInstance ?_
 rotate_left
 · (go_simp; try with_reducible rfl)
 try simp only [Act.put, sA, sB, sC]
 refine' takeH (i := 19) (v := _) rfl (by kernel_rfl) (by kernel_rfl) (by kernel_rfl) (fun _ _ _ h => h) (yields_ofI (by rfl) (fun w' _ => ?_)) inferInstance ?_
 rotate_left
 · ((apply (ev_loadKUsed (t := 3))); exact rfl; infer_instance; infer_instance)
 try simp only [Act.put, sA, sB, sC]
 refine wpAnyH_ready (rs := [13, 22]) (by kernel_rfl) (by simp) (AllReadyH.cons rfl (fun K_ hK_ => ?br1_13) (AllReadyH.cons rfl (fun K_ hK_ => ?br1_22) AllReadyH.nil))
 case' br1_13 =>
  go_simp
  refine (sign_calls seed used hm hc hn).mono ?_
  rw [← HS.out]
  rintro e w5 ⟨z, rfl, _, hz, _⟩
  refine hK_.out _ _ inferInstance (fun _ => ?_)
  clear hK_ K_
  try simp only [Act.put, sA, sB, sC]
  refine wpAnyH_ready (rs := [15, 22]) (by kernel_rfl) (by simp) (AllReadyH.cons rfl (fun K_ hK_ => ?br2_15) (AllReadyH.cons rfl (fun K_ hK_ => ?br2_22) AllReadyH.nil))
  case' br2_15 =>
   go_simp
   refine (leaves_calls).mono ?_
   rintro e w6 ⟨rfl, _, _, _⟩
   refine hK_.out _ _ inferInstance (fun _ => ?_)
   clear hK_ K_
   try simp only [Act.put, sA, sB, sC]
   refine wpAnyH_ready (rs := [20, 22]) (by kernel_rfl) (by simp) (AllReadyH.cons rfl (fun K_ hK_ => ?br3_20) (AllReadyH.cons rfl (fun K_ hK_ => ?br3_22) AllReadyH.nil))
   case' br3_20 =>
    go_simp
    refine (pathC used (leavesS_len seed) (by decide)).mono ?_
    rw [← HP.out]
    rintro e w7 ⟨A7, c7, rfl, _, hA7, _⟩
    refine hK_.out _ _ inferInstance (fun _ => ?_)
    clear hK_ K_
    try simp only [Act.put, sA, sB, sC]
    refine' takeH (i := 21) (v := _) rfl (by kernel_rfl) (by kernel_rfl) (by kernel_rfl) (fun _ _ _ h => h) (yields_ofI (by rfl) (fun w' _ => ?_)) inferInstance ?_
    rotate_left
    · ((apply ev_build); exact kbS _ _ _ _ _ _)
    try simp only [Act.put, sA, sB, sC]
    refine goH (i := 22) (by kernel_rfl) rfl (fun K_ hK_ => ?_)
    rw [if_pos (by kernel_rfl)]
    refine wpr_of_list ?_
    ((with_reducible apply (wpl_alloc (dst := some 6))); intro z6 wz6 _ _ _)
    refine wpList_nil ?_
    unfold onlyN
    refine hK_.out _ _ inferInstance (fun _ => ?_)
    clear hK_ K_
    try simp only [Act.put, sA, sB, sC]
    refine goH (i := 23) (by kernel_rfl) rfl (fun K_ hK_ => ?_)
    rw [if_pos (by kernel_rfl)]
    refine wpr_of_list ?_
    ((with_reducible apply wpl_storerow); exact rfl; exact rfl; infer_instance; infer_instance; (first | (with_reducible assumption) | (with_reducible exact H32.size _) | kernel_rfl); (first | (with_reducible assumption) | (with_reducible exact H32.size _) | kernel_rfl); (first | (with_reducible exact u8s_one _) | (with_reducible assumption) | kernel_rfl); intro ws _ _)
    refine wpList_nil ?_
    unfold onlyN
    refine hK_.out _ _ inferInstance (fun _ => ?_)
    clear hK_ K_
    try simp only [Act.put]
    refine wpAnyH_done (by kernel_rfl) ?_ _
   case' br3_22 =>
    rw [if_pos (by kernel_rfl)]
    refine wpr_of_list ?_
    ((with_reducible apply (wpl_alloc (dst := some 6))); intro z6 wz6 _ _ _)
    refine wpList_nil ?_
    unfold onlyN
    refine hK_.out _ _ inferInstance (fun _ => ?_)
    clear hK_ K_
    try simp only [Act.put, sA, sB, sC]
    refine goH (i := 20) (by kernel_rfl) rfl (fun K_ hK_ => ?_)
    go_simp
    refine (pathC used (leavesS_len seed) (by decide)).mono ?_
    rw [← HP.out]
    rintro e w7 ⟨A7, c7, rfl, _, hA7, _⟩
    refine hK_.out _ _ inferInstance (fun _ => ?_)
    clear hK_ K_
    try simp only [Act.put, sA, sB, sC]
    refine' takeH (i := 21) (v := _) rfl (by kernel_rfl) (by kernel_rfl) (by kernel_rfl) (fun _ _ _ h => h) (yields_ofI (by rfl) (fun w' _ => ?_)) inferInstance ?_
    rotate_left
    · ((apply ev_build); exact kbS _ _ _ _ _ _)
    try simp only [Act.put, sA, sB, sC]
    refine goH (i := 23) (by kernel_rfl) rfl (fun K_ hK_ => ?_)
    rw [if_pos (by kernel_rfl)]
    refine wpr_of_list ?_
    ((with_reducible apply wpl_storerow); exact rfl; exact rfl; infer_instance; infer_instance; (first | (with_reducible assumption) | (with_reducible exact H32.size _) | kernel_rfl); (first | (with_reducible assumption) | (with_reducible exact H32.size _) | kernel_rfl); (first | (with_reducible exact u8s_one _) | (with_reducible assumption) | kernel_rfl); intro ws _ _)
    refine wpList_nil ?_
    unfold onlyN
    refine hK_.out _ _ inferInstance (fun _ => ?_)
    clear hK_ K_
    try simp only [Act.put]
    refine wpAnyH_done (by kernel_rfl) ?_ _
  case' br2_22 =>
   rw [if_pos (by kernel_rfl)]
   refine wpr_of_list ?_
   ((with_reducible apply (wpl_alloc (dst := some 6))); intro z6 wz6 _ _ _)
   refine wpList_nil ?_
   unfold onlyN
   refine hK_.out _ _ inferInstance (fun _ => ?_)
   clear hK_ K_
   try simp only [Act.put, sA, sB, sC]
   refine goH (i := 15) (by kernel_rfl) rfl (fun K_ hK_ => ?_)
   go_simp
   refine (leaves_calls).mono ?_
   rintro e w6 ⟨rfl, _, _, _⟩
   refine hK_.out _ _ inferInstance (fun _ => ?_)
   clear hK_ K_
   try simp only [Act.put, sA, sB, sC]
   refine goH (i := 20) (by kernel_rfl) rfl (fun K_ hK_ => ?_)
   go_simp
   refine (pathC used (leavesS_len seed) (by decide)).mono ?_
   rw [← HP.out]
   rintro e w7 ⟨A7, c7, rfl, _, hA7, _⟩
   refine hK_.out _ _ inferInstance (fun _ => ?_)
   clear hK_ K_
   try simp only [Act.put, sA, sB, sC]
   refine' takeH (i := 21) (v := _) rfl (by kernel_rfl) (by kernel_rfl) (by kernel_rfl) (fun _ _ _ h => h) (yields_ofI (by rfl) (fun w' _ => ?_)) inferInstance ?_
   rotate_left
   · ((apply ev_build); exact kbS _ _ _ _ _ _)
   try simp only [Act.put, sA, sB, sC]
   refine goH (i := 23) (by kernel_rfl) rfl (fun K_ hK_ => ?_)
   rw [if_pos (by kernel_rfl)]
   refine wpr_of_list ?_
   ((with_reducible apply wpl_storerow); exact rfl; exact rfl; infer_instance; infer_instance; (first | (with_reducible assumption) | (with_reducible exact H32.size _) | kernel_rfl); (first | (with_reducible assumption) | (with_reducible exact H32.size _) | kernel_rfl); (first | (with_reducible exact u8s_one _) | (with_reducible assumption) | kernel_rfl); intro ws _ _)
   refine wpList_nil ?_
   unfold onlyN
   refine hK_.out _ _ inferInstance (fun _ => ?_)
   clear hK_ K_
   try simp only [Act.put]
   refine wpAnyH_done (by kernel_rfl) ?_ _
 case' br1_22 =>
  rw [if_pos (by kernel_rfl)]
  refine wpr_of_list ?_
  ((with_reducible apply (wpl_alloc (dst := some 6))); intro z6 wz6 _ _ _)
  refine wpList_nil ?_
  unfold onlyN
  refine hK_.out _ _ inferInstance (fun _ => ?_)
  clear hK_ K_
  try simp only [Act.put, sA, sB, sC]
  refine goH (i := 13) (by kernel_rfl) rfl (fun K_ hK_ => ?_)
  go_simp
  refine (sign_calls seed used hm hc hn).mono ?_
  rw [← HS.out]
  rintro e w5 ⟨z, rfl, _, hz, _⟩
  refine hK_.out _ _ inferInstance (fun _ => ?_)
  clear hK_ K_
  try simp only [Act.put, sA, sB, sC]
  refine goH (i := 15) (by kernel_rfl) rfl (fun K_ hK_ => ?_)
  go_simp
  refine (leaves_calls).mono ?_
  rintro e w6 ⟨rfl, _, _, _⟩
  refine hK_.out _ _ inferInstance (fun _ => ?_)
  clear hK_ K_
  try simp only [Act.put, sA, sB, sC]
  refine goH (i := 20) (by kernel_rfl) rfl (fun K_ hK_ => ?_)
  go_simp
  refine (pathC used (leavesS_len seed) (by decide)).mono ?_
  rw [← HP.out]
  rintro e w7 ⟨A7, c7, rfl, _, hA7, _⟩
  refine hK_.out _ _ inferInstance (fun _ => ?_)
  clear hK_ K_
  try simp only [Act.put, sA, sB, sC]
  refine' takeH (i := 21) (v := _) rfl (by kernel_rfl) (by kernel_rfl) (by kernel_rfl) (fun _ _ _ h => h) (yields_ofI (by rfl) (fun w' _ => ?_)) inferInstance ?_
  rotate_left
  · ((apply ev_build); exact kbS _ _ _ _ _ _)
  try simp only [Act.put, sA, sB, sC]
  refine goH (i := 23) (by kernel_rfl) rfl (fun K_ hK_ => ?_)
  rw [if_pos (by kernel_rfl)]
  refine wpr_of_list ?_
  ((with_reducible apply wpl_storerow); exact rfl; exact rfl; infer_instance; infer_instance; (first | (with_reducible assumption) | (with_reducible exact H32.size _) | kernel_rfl); (first | (with_reducible assumption) | (with_reducible exact H32.size _) | kernel_rfl); (first | (with_reducible exact u8s_one _) | (with_reducible assumption) | kernel_rfl); intro ws _ _)
  refine wpList_nil ?_
  unfold onlyN
  refine hK_.out _ _ inferInstance (fun _ => ?_)
  clear hK_ K_
  try simp only [Act.put]
  refine wpAnyH_done (by kernel_rfl) ?_ _
 all_goals
  have hd1 : OffA (rowOf (some ⟨z, 0, none⟩)) A7 := @OffA.rowOld _ 23 32 36 36 (some ⟨z, 0, none⟩) A7 (cellsOf S) hA7 inferInstance
  have hd2 : OffA (rowOf A7) (some ⟨z, 0, none⟩) := @OffA.rowNew _ 23 32 36 36 A7 (some ⟨z, 0, none⟩) (cellsOf S) hA7 inferInstance
  have hz9 : NewA w (some ⟨z, 0, none⟩) := NewA.monoS hz
  have hA9 : NewA w A7 := NewA.monoS hA7
  go_wp2_with (first | ((with_reducible apply (wpl_kUsed (t := 3))); exact rfl; infer_instance; infer_instance) | ((with_reducible apply (wpl_kPutU (t := 3))); exact rfl; exact rfl; infer_instance; infer_instance; intro ws _ _) | ((with_reducible apply wpl_loadrow); exact rfl; infer_instance; infer_instance; (first | (with_reducible assumption) | (with_reducible exact H32.size _) | kernel_rfl)) | ((with_reducible apply wpl_storerow); exact rfl; exact rfl; infer_instance; infer_instance; (first | (with_reducible assumption) | (with_reducible exact H32.size _) | kernel_rfl); (first | (with_reducible assumption) | (with_reducible exact H32.size _) | kernel_rfl); (first | (with_reducible exact u8s_one _) | (with_reducible assumption) | kernel_rfl); intro ws _ _))
  refine ret_row_ rfl rfl rfl (n := 3) rfl rfl ?_
  exact ⟨z, A7, c7, rfl, stepC, inferInstance, hz9, hA9, inferInstance, inferInstance, hd1, hd2⟩
theorem ksign_calls {zk : Nat} {seed : H32} {used : Int} {A : Option Addr} {n c : Nat} {m : List UInt8} {w : World} [hk : KeyAt w zk seed used] [hr : HR w A (bs m)] (hm : m.length = n) (hc : n ≤ c) (hn : n ≤ 100000) (h0 : 0 ≤ used) (h16 : used < 16) :
    Calls Tryz.prog 26 #[.pointer (some ⟨zk, 0, none⟩), .slice A n c] w fun e w' => ∃ z A' c', e = .returned (.tuple #[.agg #[.int .i64 used, .slice (some ⟨z, 0, none⟩) 36 36, .slice A' (pathA (leavesS seed) used).length c'], .int .i64 0]) ∧ Step (only zk) w w' ∧ KeyAt w' zk seed (used + 1) ∧
     NewA w (some ⟨z, 0, none⟩) ∧ NewA w A' ∧ HO w' 23 32 (some ⟨z, 0, none⟩) 36 36 (cellsOf (signS seed used m)) ∧ HO w' 23 32 A' (pathA (leavesS seed) used).length c' (cellsOf (pathA (leavesS seed) used)) :=
 (ksignD_calls hm hc hn h0 h16).mono fun _ _ ⟨z, A', c', h1, h2, h3, h4, h5, h6, h7, _⟩ => ⟨z, A', c', h1, h2, h3, h4, h5, h6, h7⟩
end Go.Proofs.YtgjnjhhhbkidbaaGreat
end
section
open Go Go.RowKit
namespace Go.Proofs.YtgjnjhhhbkidbaaGreat
/-- a repo's cells: seed, keys, the key told first, generation, version; then targets, what is handed out, the ledger -/
def rpL (sd : H32) (p0 p1 : Value) (f : H32) (g v : Int) (tl : List Value) : List Value := bs sd.l ++ (p0 :: p1 :: (bs f.l ++ (.int .i64 g :: .int .i64 v :: tl)))
def rpSuf : List Value := [.slice none 0 0, .slice none 0 0, .slice none 0 0, .slice none 0 0, .slice none 0 0, .slice none 0 0, .slice none 0 0]
def rpTl : List Value := .slice none 0 0 :: rpSuf
theorem rpL_len (sd : H32) (p0 p1 : Value) (f : H32) (g v : Int) (tl : List Value) (h : tl.length = 8) : (rpL sd p0 p1 f g v tl).length = 76 := by simp [rpL, bs_length, h]
theorem rp_get32 (sd : H32) (p0 p1 : Value) (f : H32) (g v : Int) (tl : List Value) (i : Nat) : (rpL sd p0 p1 f g v tl)[32 + i]? = (p0 :: p1 :: (bs f.l ++ (.int .i64 g :: .int .i64 v :: tl)))[i]? := by
 rw [rpL, List.getElem?_append_right (by rw [bs_length, sd.len]; omega), bs_length, sd.len, Nat.add_sub_cancel_left]
theorem rp_get68 (sd : H32) (p0 p1 : Value) (f : H32) (g v : Int) (tl : List Value) (i : Nat) : (rpL sd p0 p1 f g v tl)[68 + i]? = tl[i]? := by
 rw [show 68 + i = 32 + (((32 + (i + 2)) + 1) + 1) by omega, rp_get32, List.getElem?_cons_succ, List.getElem?_cons_succ, List.getElem?_append_right (by rw [bs_length, f.len]; omega), bs_length, f.len, Nat.add_sub_cancel_left, List.getElem?_cons_succ, List.getElem?_cons_succ]
theorem lay_app (off : Nat) (cs : Array Value) (a o b : List Value) (h : a.length = off) (h2 : o.length = cs.size) : lay off cs (a ++ (o ++ b)).toArray = (a ++ (cs.toList ++ b)).toArray := by
 apply Array.ext'
 show (a ++ (o ++ b)).take off ++ cs.toList ++ (a ++ (o ++ b)).drop (off + cs.size) = a ++ (cs.toList ++ b)
 rw [List.take_left' h, ← List.drop_drop, List.drop_left' h, List.drop_left' h2, List.append_assoc]
theorem lay_rp0 (s0 sd : H32) (p0 p1 : Value) (f : H32) (g v : Int) (tl : List Value) : lay 0 (u8s sd.l) (rpL s0 p0 p1 f g v tl).toArray = (rpL sd p0 p1 f g v tl).toArray :=
 lay_app 0 (u8s sd.l) [] (bs s0.l) _ rfl (by rw [bs_length, s0.len]; exact sd.size.symm)
theorem lay_rp32 (sd : H32) (p0 p0' p1 : Value) (f : H32) (g v : Int) (tl : List Value) : lay 32 #[p0'] (rpL sd p0 p1 f g v tl).toArray = (rpL sd p0' p1 f g v tl).toArray :=
 lay_app 32 #[p0'] (bs sd.l) [p0] _ (bsl sd) rfl
theorem lay_rp33 (sd : H32) (p0 p1 p1' : Value) (f : H32) (g v : Int) (tl : List Value) : lay 33 #[p1'] (rpL sd p0 p1 f g v tl).toArray = (rpL sd p0 p1' f g v tl).toArray := by
 have h := lay_app 33 #[p1'] (bs sd.l ++ [p0]) [p1] (bs f.l ++ (.int .i64 g :: .int .i64 v :: tl)) (by rw [List.length_append, bsl]; rfl) rfl
 rw [List.append_assoc, List.append_assoc] at h
 exact h
theorem rp_pre (sd : H32) (p0 p1 : Value) : (bs sd.l ++ [p0, p1]).length = 34 := by simp [bs_length]
theorem rp_cut (sd : H32) (p0 p1 : Value) (f : H32) (g v : Int) (tl : List Value) : rpL sd p0 p1 f g v tl = (bs sd.l ++ [p0, p1] ++ bs f.l) ++ ([.int .i64 g] ++ (.int .i64 v :: tl)) := by simp [rpL]
theorem lay_rp66 (sd : H32) (p0 p1 : Value) (f : H32) (g g' v : Int) (tl : List Value) : lay 66 #[.int .i64 g'] (rpL sd p0 p1 f g v tl).toArray = (rpL sd p0 p1 f g' v tl).toArray := by
 rw [rp_cut, rp_cut]
 exact lay_app 66 #[.int .i64 g'] (bs sd.l ++ [p0, p1] ++ bs f.l) [.int .i64 g] _ (by simp [bs_length]) rfl
theorem rp_cut34 (sd : H32) (p0 p1 : Value) (f : H32) (g v : Int) (tl : List Value) : rpL sd p0 p1 f g v tl = (bs sd.l ++ [p0, p1]) ++ (bs f.l ++ (.int .i64 g :: .int .i64 v :: tl)) := by simp [rpL]
theorem lay_rp34 (sd : H32) (p0 p1 : Value) (f f' : H32) (g v : Int) (tl : List Value) : lay 34 (u8s f'.l) (rpL sd p0 p1 f g v tl).toArray = (rpL sd p0 p1 f' g v tl).toArray := by
 rw [rp_cut34, rp_cut34]
 exact lay_app 34 (u8s f'.l) (bs sd.l ++ [p0, p1]) (bs f.l) _ (rp_pre sd p0 p1) (by rw [bs_length, f.len]; exact f'.size.symm)
theorem run_newRp (sd : H32) (a0 a1 : Option Addr) (w : World) : (Instr.build 73 #[(0, .agg (u8s sd.l)), (1, .pointer a0), (2, .pointer a1), (4, .int .i64 1)]).run Tryz.prog w = .ok (.agg (rpL sd (.pointer a0) (.pointer a1) zeroH 1 0 rpTl).toArray) w := by
 refine run_build_struct Tryz.underlying73 (zv := .agg (rpL zeroH (.pointer none) (.pointer none) zeroH 0 0 rpTl).toArray) (fun _ => by kernel_rfl) (places := #[(0, 32), (32, 1), (33, 1), (34, 32), (66, 1), (67, 1), (68, 1), (69, 6), (75, 1)]) (fun _ => by kernel_rfl) ?_ w
 have hl : ∀ s p0 p1 f g v, (rpL s p0 p1 f g v rpTl).toArray.size = 76 := fun s p0 p1 f g v => rpL_len s p0 p1 f g v rpTl rfl
 show Instr.fill _ (rpL zeroH (.pointer none) (.pointer none) zeroH 0 0 rpTl).toArray [(0, .agg (u8s sd.l)), (1, .pointer a0), (2, .pointer a1), (4, .int .i64 1)] = _
 rw [fill_step _ _ 0 _ _ (off := 0) (size := 32) rfl (by show (u8s sd.l).size = 32; exact sd.size) (by rw [hl]; decide)]
 rw [show lay 0 (Value.agg (u8s sd.l)).cells (rpL zeroH (.pointer none) (.pointer none) zeroH 0 0 rpTl).toArray = (rpL sd (.pointer none) (.pointer none) zeroH 0 0 rpTl).toArray from lay_rp0 zeroH sd _ _ _ _ _ _]
 rw [fill_step _ _ 1 _ _ (off := 32) (size := 1) rfl rfl (by rw [hl]; decide)]
 rw [show lay 32 (Value.pointer a0).cells (rpL sd (.pointer none) (.pointer none) zeroH 0 0 rpTl).toArray = (rpL sd (.pointer a0) (.pointer none) zeroH 0 0 rpTl).toArray from lay_rp32 _ _ _ _ _ _ _ _]
 rw [fill_step _ _ 2 _ _ (off := 33) (size := 1) rfl rfl (by rw [hl]; decide)]
 rw [show lay 33 (Value.pointer a1).cells (rpL sd (.pointer a0) (.pointer none) zeroH 0 0 rpTl).toArray = (rpL sd (.pointer a0) (.pointer a1) zeroH 0 0 rpTl).toArray from lay_rp33 _ _ _ _ _ _ _ _]
 rw [fill_step _ _ 4 _ _ (off := 66) (size := 1) rfl rfl (by rw [hl]; decide)]
 rw [show lay 66 (Value.int .i64 1).cells (rpL sd (.pointer a0) (.pointer a1) zeroH 0 0 rpTl).toArray = (rpL sd (.pointer a0) (.pointer a1) zeroH 1 0 rpTl).toArray from lay_rp66 _ _ _ _ _ _ _ _]
 rfl
/-- the seed of the key of this generation -/
def kSeed (sd : H32) (g : Int) : H32 := shaH (sd.l ++ [b8 g])
theorem run_gen (g : Int) (w : World) : (Instr.buildSlice 29 1 #[(0, .int .u8 (g % 256))]).run Tryz.prog w = .ok (.slice (some ⟨w.heap.size, 0, none⟩) 1 1) (w.alloc (.cells (u8s [b8 g]) 5)) := by rw [mod_b8]; kernel_rfl
set_option maxRecDepth 100000 in
set_option maxHeartbeats 1600000 in
theorem keyOf_calls (sd : H32) (g : Int) (w : World) :
    Calls Tryz.prog 23 #[.agg (u8s sd.l), .int .i64 g] w fun e w' => ∃ zk, e = .returned (.pointer (some ⟨zk, 0, none⟩)) ∧ Step nowhere w w' ∧ NewB w zk ∧ KeyAt w' zk (kSeed sd g) 0 := by
 have kb := run_gen g
 go_enter Tryz.func23, Tryz.ntmps23
 go_wp2_with (first | ((with_reducible apply wpl_bslice); exact kb _; intro zb wb _ _ _) | ((with_reducible apply (wpl_box_agg (dst := some 2))); exact rfl; intro zs wzs _ _ _) | ((with_reducible apply wpl_loadrow); exact rfl; infer_instance; infer_instance; (first | (with_reducible assumption) | (with_reducible exact H32.size _) | kernel_rfl)))
 refine (link_calls sd.l (some ⟨zb, 0, none⟩) 1 1 [b8 g] _ sd.len (by have h := (inferInstance : HR wb (some (⟨zb, 0, none⟩ : Addr)) (bs [b8 g])).out; exact h) rfl (by decide)).mono ?_
 rintro e w5 ⟨rfl, hc5⟩
 have st5 : Step nowhere wb w5 := ⟨hc5.out⟩
 clear hc5
 go_wp2_with fail
 refine (new_calls (kSeed sd g) 0 _).mono ?_
 rintro e w6 ⟨zk, rfl, st6, hz, hk⟩
 go_wp2_with fail
 go_ret
 refine ⟨zk, rfl, stepN, ⟨?_⟩, hk⟩
 exact Nat.le_trans (stepN (w0 := w) (w := w5)).chg.size hz.out
end Go.Proofs.YtgjnjhhhbkidbaaGreat
end
section
open Go Go.RowKit
namespace Go.Proofs.YtgjnjhhhbkidbaaGreat
theorem nilTgs (A : Option Addr) (n c : Nat) (w : World) : (binOp .eql 40 (.slice A n c) (.slice none 0 0)).run Tryz.prog w = .ok (.bool A.isNone) w :=
 Lib.run_eql_slice_nil w 40 42 A n c 0 0 Tryz.underlying40
attribute [local go_sem] nilTgs
/-- a list of it alone may be -/
def mayL : List UInt8 := [116, 111, 112]
def mayR (t : TargetR) : Bool := tgsOk mayL 1 0 [t] []
end Go.Proofs.YtgjnjhhhbkidbaaGreat
end
section
open Go Go.RowKit
namespace Go.Proofs.YtgjnjhhhbkidbaaGreat
instance cellKp : CellT Tryz.prog 70 := ⟨fun _ => by kernel_rfl, fun _ => by kernel_rfl⟩
instance rowTRp : RowT Tryz.prog 73 76 := ⟨by kernel_rfl, _, Tryz.underlying73, rfl⟩
theorem rp_33 (sd : H32) (p0 p1 : Value) (f : H32) (g v : Int) (tl : List Value) : nth (rpL sd p0 p1 f g v tl) 33 = some p1 := by
 rw [← nth_get]
 exact rp_get32 sd p0 p1 f g v tl 1
theorem rp_put34 (sd : H32) (p0 p1 : Value) (f f' : H32) (g v : Int) (tl : List Value) : (rpL sd p0 p1 f g v tl).toArray.toList.take 34 ++ (u8s f'.l).toList ++ (rpL sd p0 p1 f g v tl).toArray.toList.drop (34 + 32) = (rpL sd p0 p1 f' g v tl).toArray.toList := by
 have h := congrArg Array.toList (lay_rp34 sd p0 p1 f f' g v tl)
 rw [lay, f'.size] at h
 exact h
theorem rp_k34 (sd : H32) (p0 p1 : Value) (f : H32) (g v : Int) (tl : List Value) (h : tl.length = 8) : 34 + 32 ≤ (rpL sd p0 p1 f g v tl).toArray.size := by
 rw [List.size_toArray, rpL_len _ _ _ _ _ _ _ h]
 decide
set_option maxRecDepth 100000 in
set_option maxHeartbeats 1600000 in
theorem repoNew_calls (sd : H32) (w : World) :
    Calls Tryz.prog 7 #[.agg (u8s sd.l)] w fun e w' => ∃ zr z0 z1, e = .returned (.pointer (some ⟨zr, 0, none⟩)) ∧ Step nowhere w w' ∧ Hid (w.heap.size ≤ zr ∧ w.heap.size ≤ z0 ∧ w.heap.size ≤ z1 ∧ z0 ≠ zr ∧ z1 ≠ zr ∧ z0 ≠ z1) ∧ HB w' zr 73 (rpL sd (.pointer (some ⟨z0, 0, none⟩)) (.pointer (some ⟨z1, 0, none⟩)) (pubS (kSeed sd 1)) 1 0 rpTl).toArray ∧ KeyAt w' z0 (kSeed sd 0) 0 ∧ KeyAt w' z1 (kSeed sd 1) 0 := by
 go_enter Tryz.func7, Tryz.ntmps7
 go_wp2_with (first | ((with_reducible apply (wpl_box_agg (dst := some 1))); exact rfl; intro zs wzs _ _ _))
 have hS : HB wzs zs 23 (u8s sd.l) := inferInstance
 have hsl := hS.out.lt
 have hnw : Nw w wzs := ⟨(stepN (w0 := w) (w := wzs)).chg⟩
 refine wp_region_N (nowhere) (by kernel_rfl) (fun wd _ _ => ?_)
 refine' tk 0 _ rfl (by kernel_rfl) (by kernel_rfl) (by kernel_rfl) (fun _ _ _ h => h) (yo (by rfl) fun w' _ => ?_) inferInstance ?_
 rotate_left
 · ((apply ev_loadrow); exact rfl; infer_instance; infer_instance; (first | (with_reducible assumption) | (with_reducible exact H32.size _) | kernel_rfl))
 try simp only [Act.put, sA, sB, sC]
 refine' tk 1 _ rfl (by kernel_rfl) (by kernel_rfl) (by kernel_rfl) (fun _ _ _ h => h) (yo (by rfl) fun w' _ => ?_) inferInstance ?_
 rotate_left
 · ((apply ev_loadrow); exact rfl; infer_instance; infer_instance; (first | (with_reducible assumption) | (with_reducible exact H32.size _) | kernel_rfl))
 try simp only [Act.put, sA, sB, sC]
 refine' tk 3 _ rfl (by kernel_rfl) (by kernel_rfl) (by kernel_rfl) (fun _ _ _ h => h) (yo (by rfl) fun w' _ => ?_) inferInstance ?_
 rotate_left
 · ((apply ev_loadrow); exact rfl; infer_instance; infer_instance; (first | (with_reducible assumption) | (with_reducible exact H32.size _) | kernel_rfl))
 try simp only [Act.put, sA, sB, sC]
 refine goH (i := 2) (by kernel_rfl) rfl (fun K_ hK_ => ?_)
 go_simp
 refine (keyOf_calls sd 0 _).mono ?_
 rintro e w5 ⟨z0, rfl, st5, hz0, hk0⟩
 refine hK_.out _ _ inferInstance (fun _ => ?_)
 clear hK_ K_
 try simp only [Act.put, sA, sB, sC]
 refine goH (i := 4) (by kernel_rfl) rfl (fun K_ hK_ => ?_)
 go_simp
 refine (keyOf_calls sd 1 _).mono ?_
 rintro e w6 ⟨z1, rfl, st6, hz1, hk1⟩
 refine hK_.out _ _ inferInstance (fun _ => ?_)
 clear hK_ K_
 try simp only [Act.put, sA, sB, sC]
 refine' tk 5 _ rfl (by kernel_rfl) (by kernel_rfl) (by kernel_rfl) (fun _ _ _ h => h) (yo (by rfl) fun w' _ => ?_) inferInstance ?_
 rotate_left
 · ((apply ev_build); exact run_newRp _ _ _ _)
 try simp only [Act.put, sA, sB, sC]
 refine goH (i := 6) (by kernel_rfl) rfl (fun K_ hK_ => ?_)
 rw [if_pos (by kernel_rfl)]
 refine wpr_of_list ?_
 (first | ((with_reducible apply wpl_build); exact run_newRp _ _ _ _) | ((with_reducible apply (wpl_box_agg (dst := some 10))); exact rfl; intro zr wzr _ _ _) | ((with_reducible apply (wpl_box_int (dst := some 10))); exact rfl; intro zr wzr _ _ _) | ((with_reducible apply (wpl_box_slice (dst := some 10))); exact rfl; intro zr wzr _ _ _) | ((with_reducible apply (wpl_box_str (dst := some 10))); exact rfl; intro zr wzr _ _ _) | ((with_reducible apply (wpl_box_bool (dst := some 10))); exact rfl; intro zr wzr _ _ _) | ((with_reducible apply (wpl_box_ptr (dst := some 10))); exact rfl; intro zr wzr _ _ _) | ((with_reducible apply wpl_box_agg); exact rfl; intro z wz _ _ _) | ((with_reducible apply wpl_box_int); exact rfl; intro z wz _ _ _) | ((with_reducible apply wpl_box_slice); exact rfl; intro z wz _ _ _) | ((with_reducible apply wpl_box_str); exact rfl; intro z wz _ _ _) | ((with_reducible apply wpl_box_bool); exact rfl; intro z wz _ _ _) | ((with_reducible apply wpl_box_ptr); exact rfl; intro z wz _ _ _))
 refine wpList_nil ?_
 unfold onlyN
 refine hK_.out _ _ inferInstance (fun _ => ?_)
 clear hK_ K_
 try simp only [Act.put, sA, sB, sC]
 refine' tk 7 _ rfl (by kernel_rfl) (by kernel_rfl) (by kernel_rfl) (fun _ _ _ h => h) (yo (by rfl) fun w' _ => ?_) inferInstance ?_
 rotate_left
 · (go_simp; try with_reducible rfl)
 try simp only [Act.put, sA, sB, sC]
 refine wpAnyH_done (by kernel_rfl) ?_ _
 have hR6 : HB wzr zr 73 (rpL sd (.pointer (some ⟨z0, 0, none⟩)) (.pointer (some ⟨z1, 0, none⟩)) zeroH 1 0 rpTl).toArray := inferInstance
 have s0 : w.heap.size ≤ wzs.heap.size := hnw.out.size
 have s1 : wzs.heap.size ≤ wd.heap.size := (inferInstance : SzLe wzs wd).out
 have s5 : wd.heap.size ≤ w5.heap.size := st5.chg.size
 have s6 : w5.heap.size ≤ w6.heap.size := st6.chg.size
 have b0 := hz0.out
 have b1 := hz1.out
 have l0 := hk0.lt
 have l1 := hk1.lt
 have br : w6.heap.size ≤ zr := Nat.le_of_eq (inferInstance : Born w6 zr).eq.symm
 have o1 : OffB (only z1) zr := ⟨fun e => by have e' : zr = z1 := e; omega⟩
 have o2 : OffB (only zr) z0 := ⟨fun e => by have e' : z0 = zr := e; omega⟩
 have o3 : OffB (only zr) z1 := ⟨fun e => by have e' : z1 = zr := e; omega⟩
 have o4 : OffB (only z1) z0 := ⟨fun e => by have e' : z0 = z1 := e; omega⟩
 have ab1 : Above w (only z1) := ⟨fun k h => by have h' : k = z1 := h; omega⟩
 have abr : Above w (only zr) := ⟨fun k h => by have h' : k = zr := h; omega⟩
 have hk0r : KeyAt wzr z0 (kSeed sd 0) 0 := inferInstance
 have hk1r : KeyAt wzr z1 (kSeed sd 1) 0 := inferInstance
 have nwr : Nw w wzr := inferInstance
 have HPUT := Lib.hid (rp_put34 sd (.pointer (some ⟨z0, 0, none⟩)) (.pointer (some ⟨z1, 0, none⟩)) zeroH (pubS (kSeed sd 1)) 1 0 rpTl)
 have HK34 := Lib.hid (rp_k34 sd (.pointer (some ⟨z0, 0, none⟩)) (.pointer (some ⟨z1, 0, none⟩)) zeroH 1 0 rpTl rfl)
 have HN : Hid (w.heap.size ≤ zr ∧ w.heap.size ≤ z0 ∧ w.heap.size ≤ z1 ∧ z0 ≠ zr ∧ z1 ≠ zr ∧ z0 ≠ z1) := Lib.hid ⟨by omega, by omega, by omega, by omega, by omega, by omega⟩
 clear hk0 hk1 st5 st6 hz0 hz1 s0 s1 s5 s6 b0 b1 l0 l1 br hS hsl
 go_wp2_with (first | ((with_reducible apply (wpl_loadcellN (k := 33))); exact rfl; exact hR6; exact rp_33 _ _ _ _ _ _ _))
 refine (kpublic_calls (zk := z1) (seed := kSeed sd 1) (used := 0)).mono ?_
 rintro e w7 ⟨rfl, st7, hk7⟩
 have hR7 : HB w7 zr 73 (rpL sd (.pointer (some ⟨z0, 0, none⟩)) (.pointer (some ⟨z1, 0, none⟩)) zeroH 1 0 rpTl).toArray := inferInstance
 have hk07 : KeyAt w7 z0 (kSeed sd 0) 0 := inferInstance
 have nw7 : Nw w w7 := inferInstance
 clear hR6 hk0r hk1r
 go_wp2_with (first | ((with_reducible apply wpl_storepart); exact rfl; exact rfl; exact hR7; infer_instance; exact H32.size _; (decide); exact HK34.out; exact (u8s_one _); exact HPUT.out; intro wp stp htp))
 have k0 : KeyAt wp z0 (kSeed sd 0) 0 := inferInstance
 have k1 : KeyAt wp z1 (kSeed sd 1) 0 := inferInstance
 go_ret
 exact ⟨zr, z0, z1, rfl, stepN, HN, htp, k0, k1⟩
end Go.Proofs.YtgjnjhhhbkidbaaGreat
end
section
open Go Go.RowKit
namespace Go.Proofs.YtgjnjhhhbkidbaaGreat
theorem rp_68 (sd : H32) (p0 p1 : Value) (f : H32) (g v : Int) (x : Value) (suf : List Value) : nth (rpL sd p0 p1 f g v (x :: suf)) 68 = some x := by
 rw [← nth_get]
 exact rp_get68 sd p0 p1 f g v _ 0
/-- what is looked for -/
def keyT (nm ecu : List UInt8) : TargetR := ⟨nm, 0, zeroH, [], 0, ecu⟩
def gzr (z : Nat) (B : Option Addr) : Nat → Prop := fun x => x = z ∨ rowOf B x
instance Sub.gzrA (w : World) (z : Nat) (B : Option Addr) : Sub w (only z) (gzr z B) := ⟨fun _ _ h => .inl h⟩
instance Sub.gzrB (w : World) (z : Nat) (B : Option Addr) : Sub w (rowOf B) (gzr z B) := ⟨fun _ _ h => .inr h⟩
section
variable {sd f : H32} {p0 p1 : Value} {g v : Int} {suf : List Value} {B : Option Addr} {m d : Nat} {T : List TargetR} {zr : Nat} {w : World}
end
end Go.Proofs.YtgjnjhhhbkidbaaGreat
end
section
open Go Go.RowKit
namespace Go.Proofs.YtgjnjhhhbkidbaaGreat
theorem cells_part {α : Type} [RowC α] (l : List α) (k j m : Nat) (hk : k < l.length) (hj : j + m ≤ RowC.size α) (vs : List Value) (hv : vs.length = m) (d : α) (hd : RowC.enc d = (RowC.enc (gt l k)).take j ++ vs ++ (RowC.enc (gt l k)).drop (j + m)) :
    (cellsOf l).take (k * RowC.size α + j) ++ vs ++ (cellsOf l).drop (k * RowC.size α + j + m) = cellsOf (l.set k d) := by
 have hlen : (cellsOf l).length = l.length * RowC.size α := cellsOf_len l
 have hkl : k * RowC.size α + RowC.size α ≤ (cellsOf l).length := by rw [hlen, ← Nat.succ_mul]; exact Nat.mul_le_mul_right _ hk
 have hat := cellsOf_at l k hk
 have hset := cellsOf_set l k d hk
 have hlb : (RowC.enc (gt l k)).length = RowC.size α := RowC.len _
 obtain ⟨K, hK⟩ : ∃ K, K = k * RowC.size α := ⟨_, rfl⟩
 obtain ⟨s, hs⟩ : ∃ s, s = RowC.size α := ⟨_, rfl⟩
 rw [← hK] at hkl hset ⊢
 rw [← hs] at hkl hset hlb hj
 have hat' : ((cellsOf l).drop K).take s = RowC.enc (gt l k) := by rw [hK, hs]; exact hat
 obtain ⟨C, hC⟩ : ∃ C, C = cellsOf l := ⟨_, rfl⟩
 rw [← hC] at hkl hset hat' ⊢
 obtain ⟨E, hE⟩ : ∃ E, E = RowC.enc (gt l k) := ⟨_, rfl⟩
 rw [← hE] at hat' hlb hd
 have hdec : C = C.take K ++ (E ++ C.drop (K + s)) := by
  conv => lhs; rw [← List.take_append_drop K C, ← List.take_append_drop s (C.drop K), List.drop_drop]
  rw [hat']
 have hPl : (C.take K).length = K := by rw [List.length_take]; omega
 obtain ⟨Pp, hP⟩ : ∃ Pp, Pp = C.take K := ⟨_, rfl⟩
 obtain ⟨R, hR⟩ : ∃ R, R = C.drop (K + s) := ⟨_, rfl⟩
 rw [← hP] at hPl
 rw [← hset, ← hP, ← hR, hd]
 rw [← hP, ← hR] at hdec
 have t1 : C.take (K + j) = Pp ++ E.take j := by
  rw [hdec, List.take_append, List.take_of_length_le (by omega), show K + j - Pp.length = j by omega, List.take_append_of_le_length (by omega)]
 have t2 : C.drop (K + j + m) = E.drop (j + m) ++ R := by
  rw [hdec, List.drop_append, List.drop_of_length_le (by omega), List.nil_append, show K + j + m - Pp.length = j + m by omega, List.drop_append_of_le_length (by omega)]
 rw [t1, t2]
 simp [List.append_assoc]
section
variable {P : Program} {ops : Array Oper} {rest : List Oper} {a : Act} {w : World} {Q : Exit → Act → World → Prop} {dst : Option Tmp} {ty : TypeId} {pos : String} {after : Array Edge}
/-- one cell of an element of a row of the call's own -/
theorem wpl_storeC {α : Type} [RowC α] {t : TypeId} {x y : Operand} {A : Option Addr} {k j s : Nat} {v : Value} (hx : a.eval x = ptrOf A (k * s + j)) (hy : a.eval y = v) {e : TypeId} {n c : Nat} {l : List α} (ho : HO w e s A n c (cellsOf l)) (ht : CellT P t) (hs : RowC.size α = s) (h1 : v.oneCell' = true) (hk : k < l.length) (hj : j + 1 ≤ s) (d : α) (hd : RowC.enc d = (RowC.enc (gt l k)).take j ++ [v] ++ (RowC.enc (gt l k)).drop (j + 1))
    (h : ∀ w', Step (rowOf A) w w' → HO w' e s A n c (cellsOf (l.set k d)) → wpList P ops Q rest (a.put dst undef) w') : wpList P ops Q (⟨dst, .store t x y, ty, pos, after, none⟩ :: rest) a w := by
 subst hs
 have hlen : (cellsOf l).length = l.length * RowC.size α := cellsOf_len l
 have hkl : k * RowC.size α + RowC.size α ≤ (cellsOf l).length := by rw [hlen, ← Nat.succ_mul]; exact Nat.mul_le_mul_right _ hk
 obtain ⟨g, hA, q1, q2, q3⟩ := own_setCells ho.out (k := k * RowC.size α + j) (cs := [v]) (m := 1) rfl (by omega) (by decide)
 refine wpl_of_unit rfl (w' := w.setCells g (k * RowC.size α + j) [v]) ?_ (h _ ⟨q3⟩ ⟨?_⟩)
 · have hc := q1 0 (by decide)
   have hst := run_store P w ⟨g, k * RowC.size α + j, none⟩ v .plain h1
   have hcs : v.cells = #[v] := by cases v <;> simp_all [Value.oneCell', Value.cells]
   rw [Nat.add_zero] at hc
   obtain ⟨u, hu⟩ := Option.isSome_iff_exists.1 hc.1
   rw [hu, hc.2] at hst
   show ((Instr.storeAt t (a.eval x) (a.eval y)) >>= fun _ => pure Next.skip).run P w = _
   rw [hx, hy, hA]
   simp [Instr.storeAt, Instr.sureAddr, ptrOf, shift_some, add_row, storeVar, hcs, ht.size1 w, storeCells, add_zero_spot, hst, World.setCells]
 · rw [cells_part l k j 1 hk hj [v] rfl d hd] at q2
   exact q2
end
end Go.Proofs.YtgjnjhhhbkidbaaGreat
end
section
open Go Go.RowKit
namespace Go.Proofs.YtgjnjhhhbkidbaaGreat
section
variable {ops : Array Oper} {rest : List Oper} {a : Act} {w : World} {Q : Exit → Act → World → Prop} {dst : Option Tmp} {ty : TypeId} {pos : String} {after : Array Edge}
end
section
variable {ops : Array Oper} {rest : List Oper} {a : Act} {w : World} {Q : Exit → Act → World → Prop} {dst : Option Tmp} {ty : TypeId} {pos : String} {after : Array Edge}
end
end Go.Proofs.YtgjnjhhhbkidbaaGreat
end
section
open Go Go.RowKit
namespace Go.Proofs.YtgjnjhhhbkidbaaGreat
/-- one target among the others -/
def insT (L : List TargetR) (k : Nat) (r : TargetR) : List TargetR := L.take k ++ r :: L.drop k
end Go.Proofs.YtgjnjhhhbkidbaaGreat
end
section
open Go Go.RowKit
namespace Go.Proofs.YtgjnjhhhbkidbaaGreat
/-- one target taken away -/
def delT (L : List TargetR) (k : Nat) : List TargetR := L.take k ++ L.drop (k + 1)
section
variable {P : Program} {ops : Array Oper} {rest : List Oper} {a : Act} {w : World} {Q : Exit → Act → World → Prop} {dst : Option Tmp} {ty : TypeId} {pos : String} {after : Array Edge}
end
section
variable {ops : Array Oper} {rest : List Oper} {a : Act} {w : World} {Q : Exit → Act → World → Prop} {dst : Option Tmp} {ty : TypeId} {pos : String} {after : Array Edge}
end
end Go.Proofs.YtgjnjhhhbkidbaaGreat
end
section
open Go Go.RowKit
namespace Go.Proofs.YtgjnjhhhbkidbaaGreat
theorem riseT_of {T : List TargetR} (h : RiseR T) : ∀ n, n ≤ T.length → riseT T n = true
 | 0, _ => rfl
 | n + 1, hn => by
  rw [riseT, riseT_of h n (by omega), Bool.true_and]
  by_cases e : n = 0
  · simp [e]
  · rw [h (n - 1) n (by omega) (by omega)]
    simp
theorem mayR_ok {t : TargetR} (h : mayR t = true) : tgOk t = true := by
 unfold mayR tgsOk at h
 simp only [Bool.and_eq_true, List.all_cons] at h
 exact h.1.1.1.1.2.1
theorem tgsOk_of {T : List TargetR} {v x : Int} (h : RiseR T) (h1 : ∀ t ∈ T, mayR t = true) (h2 : T.length ≤ 16) (h3 : verB v = true) (h4 : numB x = true) : tgsOk mayL v x T [] = true := by
 unfold tgsOk
 rw [h3, h4, riseT_of h _ (Nat.le_refl _), decide_eq_true h2, List.all_eq_true.2 (fun t ht => mayR_ok (h1 t ht))]
 rfl
end Go.Proofs.YtgjnjhhhbkidbaaGreat
end
section
open Go Go.RowKit
namespace Go.Proofs.YtgjnjhhhbkidbaaGreat
/-- what Publish answers, and what is there behind it -/
def pubR (T : List TargetR) (t : TargetR) (k : Nat) : Int × List TargetR := if mayR t then (if inR T (keyT t.l t.ecu) k then (0, T.set k t) else if 16 ≤ T.length then (12, T) else (0, insT T k t)) else (1, T)
section
variable {sd f : H32} {p0 p1 : Value} {g v : Int} {suf : List Value} {B : Option Addr} {m d : Nat} {T : List TargetR} {zr : Nat} {w : World}
/-- what Remove answers, and what is there behind it -/
def remR (T : List TargetR) (nm ecu : List UInt8) (k : Nat) : Int × List TargetR := if inR T (keyT nm ecu) k then (0, delT T k) else (9, T)
end
end Go.Proofs.YtgjnjhhhbkidbaaGreat
end
section
open Go Go.RowKit
namespace Go.Proofs.YtgjnjhhhbkidbaaGreat
theorem run_emB (w : World) : (Instr.buildSlice 29 0 #[]).run Tryz.prog w = .ok (.slice (some ⟨w.heap.size, 0, none⟩) 0 0) (w.alloc (.cells (u8s []) 5)) := by kernel_rfl
theorem run_emH (w : World) : (Instr.buildSlice 89 0 #[]).run Tryz.prog w = .ok (.slice (some ⟨w.heap.size, 0, none⟩) 0 0) (w.alloc (.cells #[] 23)) := by kernel_rfl
theorem run_emM (w : World) : (Instr.buildSlice 30 0 #[]).run Tryz.prog w = .ok (.slice (some ⟨w.heap.size, 0, none⟩) 0 0) (w.alloc (.cells #[] 133)) := by kernel_rfl
theorem nilRB (A : Option Addr) (n c : Nat) (w : World) : (binOp .eql 29 (.slice A n c) (.slice none 0 0)).run Tryz.prog w = .ok (.bool A.isNone) w :=
 Lib.run_eql_slice_nil w 29 5 A n c 0 0 Tryz.underlying29
theorem nilRH (A : Option Addr) (n c : Nat) (w : World) : (binOp .eql 89 (.slice A n c) (.slice none 0 0)).run Tryz.prog w = .ok (.bool A.isNone) w :=
 Lib.run_eql_slice_nil w 89 23 A n c 0 0 Tryz.underlying89
theorem nilRM (A : Option Addr) (n c : Nat) (w : World) : (binOp .eql 30 (.slice A n c) (.slice none 0 0)).run Tryz.prog w = .ok (.bool A.isNone) w :=
 Lib.run_eql_slice_nil w 30 133 A n c 0 0 Tryz.underlying30
attribute [local go_sem] nilRB nilRH nilRM
instance factNilR : Fact' (([] : List UInt8).length ≤ maxLen) := ⟨Nat.zero_le _⟩
theorem nil_of_none {w : World} {vs : List Value} (h : Rd w none vs) : vs = [] := by
 cases vs with
 | nil => rfl
 | cons x l =>
  obtain ⟨ad, h, _⟩ := h.lt (by simp)
  cases h
theorem HO.ofEH (w : World) (z : Nat) [h : HB w z 23 #[]] : HO w 23 32 (some ⟨z, 0, none⟩) 0 0 (cellsOf ([] : List H32)) := ⟨Own.of_blk h.out (Nat.le_refl _) (Nat.zero_le _) (by simp) (by simp [cellsOf])⟩
theorem HO.ofEM (w : World) (z : Nat) [h : HB w z 133 #[]] : HO w 133 35 (some ⟨z, 0, none⟩) 0 0 (cellsOf ([] : List MarkR)) := ⟨Own.of_blk h.out (Nat.le_refl _) (Nat.zero_le _) (by simp) (by simp [cellsOf])⟩
set_option maxRecDepth 100000 in
set_option maxHeartbeats 1600000 in
theorem cloneBy_calls {A : Option Addr} {n c : Nat} {l : List UInt8} {w : World} [h : HR w A (bs l)] (hl : l.length = n) (hm : n ≤ 1000000) :
    Calls Tryz.prog 73 #[.slice A n c] w fun e w' => ∃ A' c', e = .returned (.slice A' n c') ∧ Step nowhere w w' ∧ HO w' 5 1 A' n c' (bs l) ∧ NewA w A' := by
 cases A with
 | none =>
  have h0 := nil_of_none h.out
  have hx : l = [] := by
   have h1 := congrArg List.length h0
   rw [bs_length] at h1
   cases l with
   | nil => rfl
   | cons x l => simp at h1
  subst hx
  subst hl
  go_enter Tryz.func73, Tryz.ntmps73
  go_wp2_with fail
  go_ret
  exact ⟨none, 0, rfl, stepN, ⟨Own.nil _ _ _⟩, newA_none _⟩
 | some ad =>
  go_enter Tryz.func73, Tryz.ntmps73
  go_wp2_with (first | ((with_reducible apply (stop_dst (dst := some 5))); (try simp only [Act.put, sA, sB, sC]); ((with_reducible apply (wpl_bslice (dst := some 5))); exact run_emB _; intro zb wb _ _ _)) | ((with_reducible apply wpl_appendB); exact rfl; exact rfl; infer_instance; infer_instance; infer_instance; exact hl; omega; intro A' c' wa _ ho _ hcap))
  go_ret
  exact ⟨A', c', by simp, stepN, ⟨by have h5 := ho.out; simpa using h5⟩, inferInstance⟩
set_option maxRecDepth 100000 in
set_option maxHeartbeats 1600000 in
theorem cloneHs_calls {A : Option Addr} {n c : Nat} {l : List H32} {w : World} [h : HR w A (cellsOf l)] (hl : l.length = n) (hm : n ≤ 1000000) :
    Calls Tryz.prog 75 #[.slice A n c] w fun e w' => ∃ A' c', e = .returned (.slice A' n c') ∧ Step nowhere w w' ∧ HO w' 23 32 A' n c' (cellsOf l) ∧ NewA w A' := by
 cases A with
 | none =>
  have h0 := nil_of_none h.out
  have hx : l = [] := by
   have h1 := congrArg List.length h0
   rw [cellsOf_len] at h1
   cases l with
   | nil => rfl
   | cons x l => simp at h1
  subst hx
  subst hl
  go_enter Tryz.func75, Tryz.ntmps75
  go_wp2_with fail
  go_ret
  exact ⟨none, 0, rfl, stepN, ⟨Own.nil _ _ _⟩, newA_none _⟩
 | some ad =>
  go_enter Tryz.func75, Tryz.ntmps75
  go_wp2_with (first | ((with_reducible apply (stop_dst (dst := some 5))); (try simp only [Act.put, sA, sB, sC]); ((with_reducible apply (wpl_bslice (dst := some 5))); exact run_emH _; intro zb wb _ _ _)) | ((with_reducible apply (wpl_appendR (α := H32))); exact rfl; exact rfl; infer_instance; exact HO.ofEH _ _; infer_instance; exact rfl; exact hl; omega; (decide); (decide); intro A' c' wa _ ho _ hcap))
  go_ret
  exact ⟨A', c', by simp, stepN, ⟨by have h5 := ho.out; simpa using h5⟩, inferInstance⟩
set_option maxRecDepth 100000 in
set_option maxHeartbeats 1600000 in
theorem cloneMs_calls {A : Option Addr} {n c : Nat} {l : List MarkR} {w : World} [h : HR w A (cellsOf l)] (hl : l.length = n) (hm : n ≤ 1000000) :
    Calls Tryz.prog 74 #[.slice A n c] w fun e w' => ∃ A' c', e = .returned (.slice A' n c') ∧ Step nowhere w w' ∧ HO w' 133 35 A' n c' (cellsOf l) ∧ NewA w A' := by
 cases A with
 | none =>
  have h0 := nil_of_none h.out
  have hx : l = [] := by
   have h1 := congrArg List.length h0
   rw [cellsOf_len] at h1
   cases l with
   | nil => rfl
   | cons x l => simp at h1
  subst hx
  subst hl
  go_enter Tryz.func74, Tryz.ntmps74
  go_wp2_with fail
  go_ret
  exact ⟨none, 0, rfl, stepN, ⟨Own.nil _ _ _⟩, newA_none _⟩
 | some ad =>
  go_enter Tryz.func74, Tryz.ntmps74
  go_wp2_with (first | ((with_reducible apply (stop_dst (dst := some 5))); (try simp only [Act.put, sA, sB, sC]); ((with_reducible apply (wpl_bslice (dst := some 5))); exact run_emM _; intro zb wb _ _ _)) | ((with_reducible apply (wpl_appendR (α := MarkR))); exact rfl; exact rfl; infer_instance; exact HO.ofEM _ _; infer_instance; exact rfl; exact hl; omega; (decide); (decide); intro A' c' wa _ ho _ hcap))
  go_ret
  exact ⟨A', c', by simp, stepN, ⟨by have h5 := ho.out; simpa using h5⟩, inferInstance⟩
end Go.Proofs.YtgjnjhhhbkidbaaGreat
end
section
open Go Go.RowKit
namespace Go.Proofs.YtgjnjhhhbkidbaaGreat
abbrev MkV := H32 × Int × List H32 × List H32
def MarkR.mv (r : MarkR) : MkV := (r.key, r.leaf, r.l, r.p)
/-- an envelope as it stands -/
def EvV (w : World) (m : List UInt8) (P : List MkV) (v0 v1 : Value) : Prop := ∃ (M : Option Addr) (nb cb : Nat) (A : Option Addr) (n c : Nat) (l : List MarkR), v0 = .slice M nb cb ∧ v1 = .slice A n c ∧ Rd w M (bs m) ∧ m.length = nb ∧ nb ≤ 100000 ∧ Rd w A (cellsOf l) ∧ l.length = n ∧ n ≤ 100000 ∧ l.map MarkR.mv = P ∧ ∀ x ∈ l, MarkIn w x ∧ x.l.length ≤ 100000 ∧ x.p.length ≤ 100000
theorem MarkIn.chgS {w w' : World} {r : MarkR} {S : Nat → Prop} (h : MarkIn w r) (c : Chg S w w') (ha : ∀ ad, r.A = some ad → ¬ S ad.block) (hb : ∀ ad, r.B = some ad → ¬ S ad.block) : MarkIn w' r := ⟨h.1.chg c (fun _ ad e => ha ad e), h.2.chg c (fun _ ad e => hb ad e)⟩
theorem EvV.nw {w w' : World} {m : List UInt8} {P : List MkV} {v0 v1 : Value} (h : EvV w m P v0 v1) (c : Chg nowhere w w') : EvV w' m P v0 v1 := by
 obtain ⟨M, nb, cb, A, n, c1, l, e0, e1, h1, h2, h3, h4, h5, h6, h7, h8⟩ := h
 exact ⟨M, nb, cb, A, n, c1, l, e0, e1, h1.chg c (fun _ _ _ h => h), h2, h3, h4.chg c (fun _ _ _ h => h), h5, h6, h7, fun x hx => ⟨(h8 x hx).1.chgS c (fun _ _ h => h) (fun _ _ h => h), (h8 x hx).2⟩⟩
instance cellMks : CellT Tryz.prog 30 := ⟨fun _ => by kernel_rfl, fun _ => by kernel_rfl⟩
instance cellHsR : CellT Tryz.prog 89 := ⟨fun _ => by kernel_rfl, fun _ => by kernel_rfl⟩
instance cellBsR : CellT Tryz.prog 29 := ⟨fun _ => by kernel_rfl, fun _ => by kernel_rfl⟩
instance rowTEvR : RowT Tryz.prog 32 2 := ⟨by kernel_rfl, _, Tryz.underlying32, rfl⟩
instance zeroTEvR : ZeroT Tryz.prog 32 #[.slice none 0 0, .slice none 0 0] := ⟨.agg #[.slice none 0 0, .slice none 0 0], fun _ => by kernel_rfl, rfl⟩
instance rowTMkR : RowT Tryz.prog 133 35 := ⟨by kernel_rfl, _, Tryz.underlying133, rfl⟩
def zeroMkR : Array Value := u8s zeroH.l ++ #[.int .i64 0, .slice none 0 0, .slice none 0 0]
instance zeroTMkR : ZeroT Tryz.prog 133 zeroMkR := ⟨.agg zeroMkR, fun _ => by kernel_rfl, rfl⟩
theorem mkv_chains (r : MarkR) : nth (RowC.enc r) (32 + 1) = some (.slice r.A r.l.length r.c) := by
 rw [← nth_get]
 show (bs r.key.l ++ r.sig)[33]? = _
 rw [List.getElem?_append_right (by rw [bs_length, r.key.len]; decide), bs_length, r.key.len]
 rfl
theorem mkv_path (r : MarkR) : nth (RowC.enc r) (32 + 2) = some (.slice r.B r.p.length r.k) := by
 rw [← nth_get]
 show (bs r.key.l ++ r.sig)[34]? = _
 rw [List.getElem?_append_right (by rw [bs_length, r.key.len]; decide), bs_length, r.key.len]
 rfl
def MarkR.setC (r : MarkR) (A : Option Addr) (c : Nat) : MarkR := ⟨r.key, r.leaf, A, c, r.l, r.B, r.k, r.p⟩
def MarkR.setB (r : MarkR) (B : Option Addr) (k : Nat) : MarkR := ⟨r.key, r.leaf, r.A, r.c, r.l, B, k, r.p⟩
theorem enc_setC (r : MarkR) (A : Option Addr) (c : Nat) : RowC.enc (r.setC A c) = (RowC.enc r).take 33 ++ [.slice A r.l.length c] ++ (RowC.enc r).drop (33 + 1) := by
 show bs r.key.l ++ (r.setC A c).sig = (bs r.key.l ++ r.sig).take 33 ++ _ ++ (bs r.key.l ++ r.sig).drop 34
 rw [List.take_append, List.drop_append, List.take_of_length_le (by rw [bsl]; decide), List.drop_of_length_le (by rw [bsl]; decide), bsl, List.append_assoc, List.append_assoc]
 rfl
theorem enc_setB (r : MarkR) (B : Option Addr) (k : Nat) : RowC.enc (r.setB B k) = (RowC.enc r).take 34 ++ [.slice B r.p.length k] ++ (RowC.enc r).drop (34 + 1) := by
 show bs r.key.l ++ (r.setB B k).sig = (bs r.key.l ++ r.sig).take 34 ++ _ ++ (bs r.key.l ++ r.sig).drop 35
 rw [List.take_append, List.drop_append, List.take_of_length_le (by rw [bsl]; decide), List.drop_of_length_le (by rw [bsl]; decide), bsl, List.append_assoc, List.append_assoc]
 rfl
theorem map_set {α β : Type} (f : α → β) (l : List α) (k : Nat) (x : α) [RowC α] (hk : k < l.length) (h : f x = f (gt l k)) : (l.set k x).map f = l.map f := by
 rw [List.map_set, h]
 have e : gt l k = l[k] := by simp [gt, List.getD_eq_getElem?_getD, hk]
 rw [e]
 apply List.ext_getElem?
 intro i
 rw [List.getElem?_set]
 split
 · rename_i h1
   subst h1
   rw [if_pos (by simpa using hk)]
   simp [hk]
 · rfl
/-- a mark whose rows are none of these -/
def MkOk (w : World) (S : Nat → Prop) (x : MarkR) : Prop := MarkIn w x ∧ (∀ ad, x.A = some ad → cellsOf x.l ≠ [] → ¬ S ad.block) ∧ (∀ ad, x.B = some ad → cellsOf x.p ≠ [] → ¬ S ad.block) ∧ x.l.length ≤ 100000 ∧ x.p.length ≤ 100000
theorem MkOk.chg {w w' : World} {S T : Nat → Prop} {x : MarkR} (h : MkOk w S x) (c : Chg T w w') (hs : ∀ y, T y → S y) : MkOk w' S x := ⟨⟨h.1.1.chg c (fun hne ad e q => h.2.1 ad e hne (hs _ q)), h.1.2.chg c (fun hne ad e q => h.2.2.1 ad e hne (hs _ q))⟩, h.2⟩
theorem gt_setM (L : List MarkR) (k : Nat) (r : MarkR) (h : k < L.length) : gt (L.set k r) k = r := by simp [gt, List.getD_eq_getElem?_getD, h]
end Go.Proofs.YtgjnjhhhbkidbaaGreat
end
section
open Go Go.RowKit
namespace Go.Proofs.YtgjnjhhhbkidbaaGreat
/-- two cells of an envelope -/
structure EvC where
 v0 : Value
 v1 : Value
 o0 : v0.oneCell' = true
 o1 : v1.oneCell' = true
instance rowCEvC : RowC EvC := ⟨2, fun k => [k.v0, k.v1], fun _ => rfl, fun k u hu => by
 simp only [List.mem_cons, List.not_mem_nil, or_false] at hu
 rcases hu with rfl | rfl
 · exact k.o0
 · exact k.o1, ⟨.slice none 0 0, .slice none 0 0, rfl, rfl⟩⟩
instance elemEvC : ElemT Tryz.prog 28 32 2 48 (.agg #[.slice none 0 0, .slice none 0 0]) := ⟨⟨Tryz.underlying28, by kernel_rfl, rfl, by decide⟩⟩
theorem EvV.one {w : World} {m : List UInt8} {P : List MkV} {v0 v1 : Value} (h : EvV w m P v0 v1) : v0.oneCell' = true ∧ v1.oneCell' = true := by
 obtain ⟨M, nb, cb, A, n, c, l, rfl, rfl, _⟩ := h
 exact ⟨rfl, rfl⟩
theorem run_ev1 (x : EvC) (w : World) : (Instr.buildSlice 28 1 #[(0, .agg #[x.v0, x.v1])]).run Tryz.prog w = .ok (.slice (some ⟨w.heap.size, 0, none⟩) 1 1) (w.alloc (.cells (cellsOf [x]).toArray 32)) := by kernel_rfl
end Go.Proofs.YtgjnjhhhbkidbaaGreat
end
section
open Go Go.RowKit
namespace Go.Proofs.YtgjnjhhhbkidbaaGreat
theorem rp_drop68 (sd : H32) (p0 p1 : Value) (f : H32) (g v : Int) (tl : List Value) (i : Nat) : (rpL sd p0 p1 f g v tl).toArray.toList.drop (68 + i) = tl.drop i := by
 have e1 : rpL sd p0 p1 f g v tl = (bs sd.l ++ [p0, p1] ++ bs f.l ++ [Value.int .i64 g, Value.int .i64 v]) ++ tl := by simp [rpL]
 have e2 : (bs sd.l ++ [p0, p1] ++ bs f.l ++ [Value.int .i64 g, Value.int .i64 v]).length = 68 := by simp [bs_length]
 show (rpL sd p0 p1 f g v tl).drop (68 + i) = _
 rw [e1, List.drop_append, List.drop_of_length_le (by rw [e2]; omega), e2, List.nil_append, Nat.add_sub_cancel_left]
theorem run_bun (a : Option Addr) (n c : Nat) (t0 t1 s0 s1 : Value) (b : Option Addr) (m d : Nat) (w : World) : (Instr.build 34 #[(0, .slice a n c), (1, .agg #[t0, t1]), (2, .agg #[s0, s1]), (3, .slice b m d)]).run Tryz.prog w = .ok (.agg #[.slice a n c, t0, t1, s0, s1, .slice b m d]) w := by kernel_rfl
instance rowTBun : RowT Tryz.prog 34 6 := ⟨by kernel_rfl, _, Tryz.underlying34, rfl⟩
instance zeroTBun : ZeroT Tryz.prog 34 #[.slice none 0 0, .slice none 0 0, .slice none 0 0, .slice none 0 0, .slice none 0 0, .slice none 0 0] := ⟨.agg #[.slice none 0 0, .slice none 0 0, .slice none 0 0, .slice none 0 0, .slice none 0 0, .slice none 0 0], fun _ => by kernel_rfl, rfl⟩
instance cellEvs : CellT Tryz.prog 28 := ⟨fun _ => by kernel_rfl, fun _ => by kernel_rfl⟩
theorem six_one (a b c d e f : Value) (h1 : a.oneCell' = true) (h2 : b.oneCell' = true) (h3 : c.oneCell' = true) (h4 : d.oneCell' = true) (h5 : e.oneCell' = true) (h6 : f.oneCell' = true) : (#[a, b, c, d, e, f] : Array Value).all (·.oneCell') = true := by
 rw [List.all_toArray, List.all_eq_true]
 intro u hu
 simp only [List.mem_cons, List.not_mem_nil, or_false] at hu
 rcases hu with rfl | rfl | rfl | rfl | rfl | rfl <;> assumption
end Go.Proofs.YtgjnjhhhbkidbaaGreat
end
