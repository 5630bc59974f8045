/- KyE -/
import Derived.Test.YtgjnjhhhbkidbaaGreatUdKyQ
open Go Go.RowKit
namespace Go.Proofs.YtgjnjhhhbkidbaaGreat
set_option maxRecDepth 100000 in
set_option maxHeartbeats 1600000 in
theorem leaves_calls {zk : Nat} {seed : H32} {used : Int} {w : World} [hk : KeyAt w zk seed used] :
    Calls Tryz.prog 57 #[.pointer (some ⟨zk, 0, none⟩)] w fun e w' => e = .returned (.slice (some ⟨zk, 34, none⟩) 16 16) ∧ Step (only zk) w w' ∧ KeyAt w' zk seed used ∧ HR w' (some ⟨zk, 34, none⟩) (cellsOf (leavesS seed)) := by
  obtain ⟨gr, tree, hl, hg, hb⟩ := hk.out
  cases gr with
  | true =>
    obtain rfl := hg rfl
    have HG := Lib.hid hg
    have HL := Lib.hid hl
    clear hk hg hl
    go_enter Tryz.func57, Tryz.ntmps57
    go_wp2_with (first | ((with_reducible apply (wpl_kGrown (t := 4))); (exact rfl); infer_instance; infer_instance) | ((with_reducible apply (wpl_sliceAr (t := 122) (s := 32))); (exact rfl); (exact Tryz.underlying122); (kernel_rfl)))
    go_ret
    exact ⟨rfl, stepC, ⟨true, leavesS seed, HL.out, fun _ => rfl, hb⟩, HR.keyTree hb⟩
  | false =>
    have HL := Lib.hid hl
    clear hk hg hl
    go_enter Tryz.func57, Tryz.ntmps57
    go_wp2_with (first | ((with_reducible apply (wpl_kGrown (t := 4))); (exact rfl); infer_instance; infer_instance))
    go_loopw [9] (fun kv wr => ∃ (k : Nat) (tr : List H32), k ≤ 16 ∧ kv = .int .i64 (k : Int) ∧ Hid (tr.length = 16) ∧ Hid (∀ j, j < k → hget tr j = publicS seed (j : Int)) ∧ Step (only zk) w wr ∧ HB wr zk 124 (keyL seed used false tr).toArray) (fun kv _ => 16 - (intOf kv).toNat)
    case atStart => exact ⟨0, tree, by decide, rfl, HL, Lib.hid (fun j hj => by omega), stepC, inferInstance⟩
    case round =>
      obtain ⟨k, tr, hk, rfl, HT, HJ, _, hbk⟩ := hrel
      have hka : KeyAt wr zk seed used := ⟨false, tr, HT.out, (fun h => by cases h), hbk⟩
      by_cases hlt : k < 16
      · have hltI : (k : Int) < 16 := by omega
        go_wp2_with fail
        refine wp_region_N ((only zk)) (by kernel_rfl) (fun wd _ _ => ?_)
        refine' takeH (i := 0) (v := _) rfl (by kernel_rfl) (by kernel_rfl) (by kernel_rfl) (fun _ _ _ h => h) (yields_of (by rfl) (fun w' _ => ?_)) inferInstance ?_
        rotate_left
        · (go_simp; try with_reducible rfl)
        try simp only [Act.put, sA]; try simp only [sB, sC]
        refine' takeH (i := 1) (v := _) rfl (by kernel_rfl) (by kernel_rfl) (by kernel_rfl) (fun _ _ _ h => h) (yields_of (by rfl) (fun w' _ => ?_)) inferInstance ?_
        rotate_left
        · (go_simp; try with_reducible rfl)
        try simp only [Act.put, sA]; try simp only [sB, sC]
        refine' takeH (i := 2) (v := _) rfl (by kernel_rfl) (by kernel_rfl) (by kernel_rfl) (fun _ _ _ h => h) (yields_of (by rfl) (fun w' _ => ?_)) inferInstance ?_
        rotate_left
        · (go_simp; try with_reducible rfl)
        try simp only [Act.put, sA]; try simp only [sB, sC]
        refine' takeH (i := 3) (v := _) rfl (by kernel_rfl) (by kernel_rfl) (by kernel_rfl) (fun _ _ _ h => h) (yields_of (by rfl) (fun w' _ => ?_)) inferInstance ?_
        rotate_left
        · (go_simp; try with_reducible rfl)
        try simp only [Act.put, sA]; try simp only [sB, sC]
        refine' takeH (i := 4) (v := _) rfl (by kernel_rfl) (by kernel_rfl) (by kernel_rfl) (fun _ _ _ h => h) (yields_of (by rfl) (fun w' _ => ?_)) inferInstance ?_
        rotate_left
        · (go_simp; try with_reducible rfl)
        try simp only [Act.put, sA]; try simp only [sB, sC]
        refine' takeH (i := 6) (v := _) rfl (by kernel_rfl) (by kernel_rfl) (by kernel_rfl) (fun _ _ _ h => h) (yields_of (by rfl) (fun w' _ => ?_)) inferInstance ?_
        rotate_left
        · (go_simp; try with_reducible rfl)
        try simp only [Act.put, sA]; try simp only [sB, sC]
        refine' takeH (i := 8) (v := _) rfl (by kernel_rfl) (by kernel_rfl) (by kernel_rfl) (fun _ _ _ h => h) (yields_of (by rfl) (fun w' _ => ?_)) inferInstance ?_
        rotate_left
        · (go_simp; try with_reducible rfl)
        try simp only [Act.put, sA]; try simp only [sB, sC]
        refine' takeH (i := 9) (v := _) rfl (by kernel_rfl) (by kernel_rfl) (by kernel_rfl) (fun _ _ _ h => h) (yields_of (by rfl) (fun w' _ => ?_)) inferInstance ?_
        rotate_left
        · (go_simp; try with_reducible rfl)
        try simp only [Act.put, sA]; try simp only [sB, sC]
        refine goH (i := 5) (by kernel_rfl) rfl (fun K_ hK_ => ?_)
        rw [if_pos (by kernel_rfl)]
        refine wpr_of_list ?_
        ((with_reducible apply (wpl_kSeed (t := 23))); (exact rfl); infer_instance; infer_instance)
        refine wpList_nil ?_
        unfold onlyN
        refine hK_.out _ _ inferInstance (fun _ => ?_)
        clear hK_ K_
        try simp only [Act.put, sA]; try simp only [sB, sC]
        refine goH (i := 7) (by kernel_rfl) rfl (fun K_ hK_ => ?_)
        go_simp
        refine (public_calls seed (k : Int) _).mono ?_
        rintro e w5 ⟨rfl, _⟩
        refine hK_.out _ _ inferInstance (fun _ => ?_)
        clear hK_ K_
        try simp only [Act.put, sA]; try simp only [sB, sC]
        refine goH (i := 10) (by kernel_rfl) rfl (fun K_ hK_ => ?_)
        rw [if_pos (by kernel_rfl)]
        refine wpr_of_list ?_
        ((with_reducible apply (wpl_indexAr (t := 122) (s := 32))); (exact rfl); (exact rfl); (exact Tryz.underlying122); (kernel_rfl); (first | (with_reducible assumption) | omega))
        refine wpList_nil ?_
        unfold onlyN
        refine hK_.out _ _ inferInstance (fun _ => ?_)
        clear hK_ K_
        try simp only [Act.put, sA]; try simp only [sB, sC]
        refine goH (i := 11) (by kernel_rfl) rfl (fun K_ hK_ => ?_)
        rw [if_pos (by kernel_rfl)]
        refine wpr_of_list ?_
        ((with_reducible apply (wpl_kPutT (t := 23))); (exact rfl); (exact rfl); infer_instance; infer_instance; (exact HT.out); (first | (with_reducible assumption) | omega); intro ws _ _)
        refine wpList_nil ?_
        unfold onlyN
        refine hK_.out _ _ inferInstance (fun _ => ?_)
        clear hK_ K_
        try simp only [Act.put]
        refine wpAnyH_done (by kernel_rfl) ?_ _
        go_wp2_with fail
        refine ⟨⟨k + 1, tr.set k (publicS seed (k : Int)), by omega, by go_num, Lib.hid (by rw [List.length_set]; exact HT.out), Lib.hid (fun j hj => ?_), stepC, inferInstance⟩, by simp [intOf]; omega⟩
        by_cases hjk : j = k
        · subst hjk
          have h16 := HT.out
          simp [hget, List.getD_eq_getElem?_getD, h16, hlt]
        · have := HJ.out j (by omega)
          rw [← this]
          simp [hget, List.getD_eq_getElem?_getD, Ne.symm hjk]
      · have hltI : ¬ (k : Int) < 16 := by omega
        have htr : tr = leavesS seed := by
          refine hget_ext (by rw [HT.out, leavesS_len]) (fun i hi => ?_)
          rw [HJ.out i (by have := HT.out; omega)]
          have : i < 16 := by have := HT.out; omega
          simp [hget, leavesS, List.getD_eq_getElem?_getD, this]
        subst htr
        go_wp2_with (first | ((with_reducible apply (wpl_kPutG (t := 4))); (exact rfl); (exact rfl); infer_instance; infer_instance; (exact HT.out); intro ws _ _) | ((with_reducible apply (wpl_sliceAr (t := 122) (s := 32))); (exact rfl); (exact Tryz.underlying122); (kernel_rfl)))
        go_ret
        have hb9 : HB ws zk 124 (keyL seed used true (leavesS seed)).toArray := inferInstance
        exact ⟨rfl, stepC, ⟨true, leavesS seed, HT.out, fun _ => rfl, hb9⟩, HR.keyTree hb9⟩
def pubS (seed : H32) : H32 := nameS (rootL (leavesS seed))
set_option maxRecDepth 100000 in
theorem kpublic_calls {zk : Nat} {seed : H32} {used : Int} {w : World} [hk : KeyAt w zk seed used] :
    Calls Tryz.prog 24 #[.pointer (some ⟨zk, 0, none⟩)] w fun e w' => e = .returned (.agg (u8s (pubS seed).l)) ∧ Step (only zk) w w' ∧ KeyAt w' zk seed used := by
  obtain ⟨U, hU⟩ : ∃ U, U = rootL (leavesS seed) := ⟨_, rfl⟩
  obtain ⟨N, hN⟩ : ∃ N, N = pubS seed := ⟨_, rfl⟩
  have hNU : N = nameS U := by rw [hN, hU]; rfl
  have HU := Lib.hid hU
  have HN := Lib.hid hNU
  rw [← hN]
  clear hU hN hNU
  go_enter Tryz.func24, Tryz.ntmps24
  go_wp2_with (first | ((with_reducible apply (wpl_alloc (dst := some 2))); intro zo wzo _ _ _))
  refine (leaves_calls).mono ?_
  rintro e w1 ⟨rfl, _, _, _⟩
  go_wp2_with fail
  refine (rootC (leavesS_len seed) (by decide)).mono ?_
  rw [← HU.out]
  rintro e w2 ⟨rfl, _⟩
  go_wp2_with fail
  refine (name_calls U _).mono ?_
  rw [← HN.out]
  rintro e w3 ⟨rfl, _⟩
  go_wp2_with (first | ((with_reducible apply wpl_storerow); (exact rfl); (exact rfl); infer_instance; infer_instance; (first | (with_reducible assumption) | (with_reducible exact H32.size _) | kernel_rfl); (first | (with_reducible assumption) | (with_reducible exact H32.size _) | kernel_rfl); (first | (with_reducible exact u8s_one _) | (with_reducible assumption) | kernel_rfl); intro ws _ _))
  exact ret_row rfl rfl (n := 32) (H32.size _) rfl ⟨rfl, stepC, inferInstance⟩
set_option maxRecDepth 100000 in
set_option maxHeartbeats 3200000 in
theorem ksignD_calls {zk : Nat} {seed : H32} {used : Int} {A : Option Addr} {n c : Nat} {m : List UInt8} {w : World} [hk : KeyAt w zk seed used] [hr : HR w A (bs m)] (hm : m.length = n) (hc : n ≤ c) (hn : n ≤ 100000) (h0 : 0 ≤ used) (h16 : used < 16) :
    Calls Tryz.prog 26 #[.pointer (some ⟨zk, 0, none⟩), .slice A n c] w fun e w' => ∃ z A' c', e = .returned (.tuple #[.agg #[.int .i64 used, .slice (some ⟨z, 0, none⟩) 36 36, .slice A' (pathA (leavesS seed) used).length c'], .int .i64 0]) ∧ Step (only zk) w w' ∧ KeyAt w' zk seed (used + 1) ∧
      NewA w (some ⟨z, 0, none⟩) ∧ NewA w A' ∧ HO w' 23 32 (some ⟨z, 0, none⟩) 36 36 (cellsOf (signS seed used m)) ∧ HO w' 23 32 A' (pathA (leavesS seed) used).length c' (cellsOf (pathA (leavesS seed) used)) ∧ OffA (rowOf (some ⟨z, 0, none⟩)) A' ∧ OffA (rowOf A') (some ⟨z, 0, none⟩) := by
  have kbS : ∀ (u : Int) (z : Nat) (B : Option Addr) (k d : Nat) w, (Instr.build 126 #[(0, .int .i64 u), (1, .slice (some ⟨z, 0, none⟩) 36 36), (2, .slice B k d)]).run Tryz.prog w = .ok (.agg #[.int .i64 u, .slice (some ⟨z, 0, none⟩) 36 36, .slice B k d]) w := fun _ _ _ _ _ _ => by kernel_rfl
  obtain ⟨S, hS⟩ : ∃ S, S = signS seed used m := ⟨_, rfl⟩
  obtain ⟨Pa, hP⟩ : ∃ Pa, Pa = pathA (leavesS seed) used := ⟨_, rfl⟩
  have HS := Lib.hid hS
  have HP := Lib.hid hP
  rw [← hS, ← hP]
  clear hS hP
  go_enter Tryz.func26, Tryz.ntmps26
  go_wp2_with (first | ((with_reducible apply (wpl_kUsed (t := 3))); (exact rfl); infer_instance; infer_instance) | ((with_reducible apply (wpl_alloc (dst := some 4))); intro zo wzo _ _ _))
  refine wp_region_I (KI zk seed used) ((only zk)) (by kernel_rfl) inferInstance (fun wd _ _ => ?_)
  refine' takeH (i := 0) (v := _) rfl (by kernel_rfl) (by kernel_rfl) (by kernel_rfl) (fun _ _ _ h => h) (yields_ofI (by rfl) (fun w' _ => ?_)) inferInstance ?_
  rotate_left
  · (go_simp; try with_reducible rfl)
  try simp only [Act.put, sA]; try simp only [sB, sC]
  refine' takeH (i := 1) (v := _) rfl (by kernel_rfl) (by kernel_rfl) (by kernel_rfl) (fun _ _ _ h => h) (yields_ofI (by rfl) (fun w' _ => ?_)) inferInstance ?_
  rotate_left
  · (go_simp; try with_reducible rfl)
  try simp only [Act.put, sA]; try simp only [sB, sC]
  refine' takeH (i := 2) (v := _) rfl (by kernel_rfl) (by kernel_rfl) (by kernel_rfl) (fun _ _ _ h => h) (yields_ofI (by rfl) (fun w' _ => ?_)) inferInstance ?_
  rotate_left
  · (go_simp; try with_reducible rfl)
  try simp only [Act.put, sA]; try simp only [sB, sC]
  refine' takeH (i := 3) (v := _) rfl (by kernel_rfl) (by kernel_rfl) (by kernel_rfl) (fun _ _ _ h => h) (yields_ofI (by rfl) (fun w' _ => ?_)) inferInstance ?_
  rotate_left
  · ((with_reducible apply (ev_loadKUsed (t := 3))); (exact rfl); infer_instance; infer_instance)
  try simp only [Act.put, sA]; try simp only [sB, sC]
  refine' takeH (i := 4) (v := _) rfl (by kernel_rfl) (by kernel_rfl) (by kernel_rfl) (fun _ _ _ h => h) (yields_ofI (by rfl) (fun w' _ => ?_)) inferInstance ?_
  rotate_left
  · (go_simp; try with_reducible rfl)
  try simp only [Act.put, sA]; try simp only [sB, sC]
  refine' takeH (i := 5) (v := _) rfl (by kernel_rfl) (by kernel_rfl) (by kernel_rfl) (fun _ _ _ h => h) (yields_ofI (by rfl) (fun w' _ => ?_)) inferInstance ?_
  rotate_left
  · (go_simp; try with_reducible rfl)
  try simp only [Act.put, sA]; try simp only [sB, sC]
  refine' takeH (i := 6) (v := _) rfl (by kernel_rfl) (by kernel_rfl) (by kernel_rfl) (fun _ _ _ h => h) (yields_ofI (by rfl) (fun w' _ => ?_)) inferInstance ?_
  rotate_left
  · (go_simp; try with_reducible rfl)
  try simp only [Act.put, sA]; try simp only [sB, sC]
  refine' takeH (i := 7) (v := _) rfl (by kernel_rfl) (by kernel_rfl) (by kernel_rfl) (fun _ _ _ h => h) (yields_ofI (by rfl) (fun w' _ => ?_)) inferInstance ?_
  rotate_left
  · ((with_reducible apply (ev_loadKSeed (t := 23))); (exact rfl); infer_instance; infer_instance)
  try simp only [Act.put, sA]; try simp only [sB, sC]
  refine' takeH (i := 8) (v := _) rfl (by kernel_rfl) (by kernel_rfl) (by kernel_rfl) (fun _ _ _ h => h) (yields_ofI (by rfl) (fun w' _ => ?_)) inferInstance ?_
  rotate_left
  · (go_simp; try with_reducible rfl)
  try simp only [Act.put, sA]; try simp only [sB, sC]
  refine' takeH (i := 9) (v := _) rfl (by kernel_rfl) (by kernel_rfl) (by kernel_rfl) (fun _ _ _ h => h) (yields_ofI (by rfl) (fun w' _ => ?_)) inferInstance ?_
  rotate_left
  · (go_simp; try with_reducible rfl)
  try simp only [Act.put, sA]; try simp only [sB, sC]
  refine' takeH (i := 10) (v := _) rfl (by kernel_rfl) (by kernel_rfl) (by kernel_rfl) (fun _ _ _ h => h) (yields_ofI (by rfl) (fun w' _ => ?_)) inferInstance ?_
  rotate_left
  · (go_simp; try with_reducible rfl)
  try simp only [Act.put, sA]; try simp only [sB, sC]
  refine' takeH (i := 11) (v := _) rfl (by kernel_rfl) (by kernel_rfl) (by kernel_rfl) (fun _ _ _ h => h) (yields_ofI (by rfl) (fun w' _ => ?_)) inferInstance ?_
  rotate_left
  · ((with_reducible apply (ev_loadKUsed (t := 3))); (exact rfl); infer_instance; infer_instance)
  try simp only [Act.put, sA]; try simp only [sB, sC]
  refine' takeH (i := 12) (v := _) rfl (by kernel_rfl) (by kernel_rfl) (by kernel_rfl) (fun _ _ _ h => h) (yields_ofI (by rfl) (fun w' _ => ?_)) inferInstance ?_
  rotate_left
  · (go_simp; try with_reducible rfl)
  try simp only [Act.put, sA]; try simp only [sB, sC]
  refine' takeH (i := 14) (v := _) rfl (by kernel_rfl) (by kernel_rfl) (by kernel_rfl) (fun _ _ _ h => h) (yields_ofI (by rfl) (fun w' _ => ?_)) inferInstance ?_
  rotate_left
  · (go_simp; try with_reducible rfl)
  try simp only [Act.put, sA]; try simp only [sB, sC]
  refine' takeH (i := 16) (v := _) rfl (by kernel_rfl) (by kernel_rfl) (by kernel_rfl) (fun _ _ _ h => h) (yields_ofI (by rfl) (fun w' _ => ?_)) inferInstance ?_
  rotate_left
  · (go_simp; try with_reducible rfl)
  try simp only [Act.put, sA]; try simp only [sB, sC]
  refine' takeH (i := 17) (v := _) rfl (by kernel_rfl) (by kernel_rfl) (by kernel_rfl) (fun _ _ _ h => h) (yields_ofI (by rfl) (fun w' _ => ?_)) inferInstance ?_
  rotate_left
  · (go_simp; try with_reducible rfl)
  try simp only [Act.put, sA]; try simp only [sB, sC]
  refine' takeH (i := 18) (v := _) rfl (by kernel_rfl) (by kernel_rfl) (by kernel_rfl) (fun _ _ _ h => h) (yields_ofI (by rfl) (fun w' _ => ?_)) inferInstance ?_
  rotate_left
  · (go_simp; try with_reducible rfl)
  try simp only [Act.put, sA]; try simp only [sB, sC]
  refine' takeH (i := 19) (v := _) rfl (by kernel_rfl) (by kernel_rfl) (by kernel_rfl) (fun _ _ _ h => h) (yields_ofI (by rfl) (fun w' _ => ?_)) inferInstance ?_
  rotate_left
  · ((with_reducible apply (ev_loadKUsed (t := 3))); (exact rfl); infer_instance; infer_instance)
  try simp only [Act.put, sA]; try simp only [sB, sC]
  refine wpAnyH_ready (rs := [13, 22]) (by kernel_rfl) (by simp) (AllReadyH.cons rfl (fun K_ hK_ => ?br1_13) (AllReadyH.cons rfl (fun K_ hK_ => ?br1_22) AllReadyH.nil))
  case' br1_13 =>
    go_simp
    refine (sign_calls seed used hm hc hn).mono ?_
    rw [← HS.out]
    rintro e w5 ⟨z, rfl, _, hz, _⟩
    refine hK_.out _ _ inferInstance (fun _ => ?_)
    clear hK_ K_
    try simp only [Act.put, sA]; try simp only [sB, sC]
    refine wpAnyH_ready (rs := [15, 22]) (by kernel_rfl) (by simp) (AllReadyH.cons rfl (fun K_ hK_ => ?br2_15) (AllReadyH.cons rfl (fun K_ hK_ => ?br2_22) AllReadyH.nil))
    case' br2_15 =>
      go_simp
      refine (leaves_calls).mono ?_
      rintro e w6 ⟨rfl, _, _, _⟩
      refine hK_.out _ _ inferInstance (fun _ => ?_)
      clear hK_ K_
      try simp only [Act.put, sA]; try simp only [sB, sC]
      refine wpAnyH_ready (rs := [20, 22]) (by kernel_rfl) (by simp) (AllReadyH.cons rfl (fun K_ hK_ => ?br3_20) (AllReadyH.cons rfl (fun K_ hK_ => ?br3_22) AllReadyH.nil))
      case' br3_20 =>
        go_simp
        refine (pathC used (leavesS_len seed) (by decide)).mono ?_
        rw [← HP.out]
        rintro e w7 ⟨A7, c7, rfl, _, hA7, _⟩
        refine hK_.out _ _ inferInstance (fun _ => ?_)
        clear hK_ K_
        try simp only [Act.put, sA]; try simp only [sB, sC]
        refine' takeH (i := 21) (v := _) rfl (by kernel_rfl) (by kernel_rfl) (by kernel_rfl) (fun _ _ _ h => h) (yields_ofI (by rfl) (fun w' _ => ?_)) inferInstance ?_
        rotate_left
        · ((with_reducible apply ev_build); exact kbS _ _ _ _ _ _)
        try simp only [Act.put, sA]; try simp only [sB, sC]
        refine goH (i := 22) (by kernel_rfl) rfl (fun K_ hK_ => ?_)
        rw [if_pos (by kernel_rfl)]
        refine wpr_of_list ?_
        ((with_reducible apply (wpl_alloc (dst := some 6))); intro z6 wz6 _ _ _)
        refine wpList_nil ?_
        unfold onlyN
        refine hK_.out _ _ inferInstance (fun _ => ?_)
        clear hK_ K_
        try simp only [Act.put, sA]; try simp only [sB, sC]
        refine goH (i := 23) (by kernel_rfl) rfl (fun K_ hK_ => ?_)
        rw [if_pos (by kernel_rfl)]
        refine wpr_of_list ?_
        ((with_reducible apply wpl_storerow); (exact rfl); (exact rfl); infer_instance; infer_instance; (first | (with_reducible assumption) | (with_reducible exact H32.size _) | kernel_rfl); (first | (with_reducible assumption) | (with_reducible exact H32.size _) | kernel_rfl); (first | (with_reducible exact u8s_one _) | (with_reducible assumption) | kernel_rfl); intro ws _ _)
        refine wpList_nil ?_
        unfold onlyN
        refine hK_.out _ _ inferInstance (fun _ => ?_)
        clear hK_ K_
        try simp only [Act.put]
        refine wpAnyH_done (by kernel_rfl) ?_ _
      case' br3_22 =>
        rw [if_pos (by kernel_rfl)]
        refine wpr_of_list ?_
        ((with_reducible apply (wpl_alloc (dst := some 6))); intro z6 wz6 _ _ _)
        refine wpList_nil ?_
        unfold onlyN
        refine hK_.out _ _ inferInstance (fun _ => ?_)
        clear hK_ K_
        try simp only [Act.put, sA]; try simp only [sB, sC]
        refine goH (i := 20) (by kernel_rfl) rfl (fun K_ hK_ => ?_)
        go_simp
        refine (pathC used (leavesS_len seed) (by decide)).mono ?_
        rw [← HP.out]
        rintro e w7 ⟨A7, c7, rfl, _, hA7, _⟩
        refine hK_.out _ _ inferInstance (fun _ => ?_)
        clear hK_ K_
        try simp only [Act.put, sA]; try simp only [sB, sC]
        refine' takeH (i := 21) (v := _) rfl (by kernel_rfl) (by kernel_rfl) (by kernel_rfl) (fun _ _ _ h => h) (yields_ofI (by rfl) (fun w' _ => ?_)) inferInstance ?_
        rotate_left
        · ((with_reducible apply ev_build); exact kbS _ _ _ _ _ _)
        try simp only [Act.put, sA]; try simp only [sB, sC]
        refine goH (i := 23) (by kernel_rfl) rfl (fun K_ hK_ => ?_)
        rw [if_pos (by kernel_rfl)]
        refine wpr_of_list ?_
        ((with_reducible apply wpl_storerow); (exact rfl); (exact rfl); infer_instance; infer_instance; (first | (with_reducible assumption) | (with_reducible exact H32.size _) | kernel_rfl); (first | (with_reducible assumption) | (with_reducible exact H32.size _) | kernel_rfl); (first | (with_reducible exact u8s_one _) | (with_reducible assumption) | kernel_rfl); intro ws _ _)
        refine wpList_nil ?_
        unfold onlyN
        refine hK_.out _ _ inferInstance (fun _ => ?_)
        clear hK_ K_
        try simp only [Act.put]
        refine wpAnyH_done (by kernel_rfl) ?_ _
    case' br2_22 =>
      rw [if_pos (by kernel_rfl)]
      refine wpr_of_list ?_
      ((with_reducible apply (wpl_alloc (dst := some 6))); intro z6 wz6 _ _ _)
      refine wpList_nil ?_
      unfold onlyN
      refine hK_.out _ _ inferInstance (fun _ => ?_)
      clear hK_ K_
      try simp only [Act.put, sA]; try simp only [sB, sC]
      refine goH (i := 15) (by kernel_rfl) rfl (fun K_ hK_ => ?_)
      go_simp
      refine (leaves_calls).mono ?_
      rintro e w6 ⟨rfl, _, _, _⟩
      refine hK_.out _ _ inferInstance (fun _ => ?_)
      clear hK_ K_
      try simp only [Act.put, sA]; try simp only [sB, sC]
      refine goH (i := 20) (by kernel_rfl) rfl (fun K_ hK_ => ?_)
      go_simp
      refine (pathC used (leavesS_len seed) (by decide)).mono ?_
      rw [← HP.out]
      rintro e w7 ⟨A7, c7, rfl, _, hA7, _⟩
      refine hK_.out _ _ inferInstance (fun _ => ?_)
      clear hK_ K_
      try simp only [Act.put, sA]; try simp only [sB, sC]
      refine' takeH (i := 21) (v := _) rfl (by kernel_rfl) (by kernel_rfl) (by kernel_rfl) (fun _ _ _ h => h) (yields_ofI (by rfl) (fun w' _ => ?_)) inferInstance ?_
      rotate_left
      · ((with_reducible apply ev_build); exact kbS _ _ _ _ _ _)
      try simp only [Act.put, sA]; try simp only [sB, sC]
      refine goH (i := 23) (by kernel_rfl) rfl (fun K_ hK_ => ?_)
      rw [if_pos (by kernel_rfl)]
      refine wpr_of_list ?_
      ((with_reducible apply wpl_storerow); (exact rfl); (exact rfl); infer_instance; infer_instance; (first | (with_reducible assumption) | (with_reducible exact H32.size _) | kernel_rfl); (first | (with_reducible assumption) | (with_reducible exact H32.size _) | kernel_rfl); (first | (with_reducible exact u8s_one _) | (with_reducible assumption) | kernel_rfl); intro ws _ _)
      refine wpList_nil ?_
      unfold onlyN
      refine hK_.out _ _ inferInstance (fun _ => ?_)
      clear hK_ K_
      try simp only [Act.put]
      refine wpAnyH_done (by kernel_rfl) ?_ _
  case' br1_22 =>
    rw [if_pos (by kernel_rfl)]
    refine wpr_of_list ?_
    ((with_reducible apply (wpl_alloc (dst := some 6))); intro z6 wz6 _ _ _)
    refine wpList_nil ?_
    unfold onlyN
    refine hK_.out _ _ inferInstance (fun _ => ?_)
    clear hK_ K_
    try simp only [Act.put, sA]; try simp only [sB, sC]
    refine goH (i := 13) (by kernel_rfl) rfl (fun K_ hK_ => ?_)
    go_simp
    refine (sign_calls seed used hm hc hn).mono ?_
    rw [← HS.out]
    rintro e w5 ⟨z, rfl, _, hz, _⟩
    refine hK_.out _ _ inferInstance (fun _ => ?_)
    clear hK_ K_
    try simp only [Act.put, sA]; try simp only [sB, sC]
    refine goH (i := 15) (by kernel_rfl) rfl (fun K_ hK_ => ?_)
    go_simp
    refine (leaves_calls).mono ?_
    rintro e w6 ⟨rfl, _, _, _⟩
    refine hK_.out _ _ inferInstance (fun _ => ?_)
    clear hK_ K_
    try simp only [Act.put, sA]; try simp only [sB, sC]
    refine goH (i := 20) (by kernel_rfl) rfl (fun K_ hK_ => ?_)
    go_simp
    refine (pathC used (leavesS_len seed) (by decide)).mono ?_
    rw [← HP.out]
    rintro e w7 ⟨A7, c7, rfl, _, hA7, _⟩
    refine hK_.out _ _ inferInstance (fun _ => ?_)
    clear hK_ K_
    try simp only [Act.put, sA]; try simp only [sB, sC]
    refine' takeH (i := 21) (v := _) rfl (by kernel_rfl) (by kernel_rfl) (by kernel_rfl) (fun _ _ _ h => h) (yields_ofI (by rfl) (fun w' _ => ?_)) inferInstance ?_
    rotate_left
    · ((with_reducible apply ev_build); exact kbS _ _ _ _ _ _)
    try simp only [Act.put, sA]; try simp only [sB, sC]
    refine goH (i := 23) (by kernel_rfl) rfl (fun K_ hK_ => ?_)
    rw [if_pos (by kernel_rfl)]
    refine wpr_of_list ?_
    ((with_reducible apply wpl_storerow); (exact rfl); (exact rfl); infer_instance; infer_instance; (first | (with_reducible assumption) | (with_reducible exact H32.size _) | kernel_rfl); (first | (with_reducible assumption) | (with_reducible exact H32.size _) | kernel_rfl); (first | (with_reducible exact u8s_one _) | (with_reducible assumption) | kernel_rfl); intro ws _ _)
    refine wpList_nil ?_
    unfold onlyN
    refine hK_.out _ _ inferInstance (fun _ => ?_)
    clear hK_ K_
    try simp only [Act.put]
    refine wpAnyH_done (by kernel_rfl) ?_ _
  all_goals
    have hd1 : OffA (rowOf (some ⟨z, 0, none⟩)) A7 := @OffA.rowOld _ 23 32 36 36 (some ⟨z, 0, none⟩) A7 (cellsOf S) hA7 inferInstance
    have hd2 : OffA (rowOf A7) (some ⟨z, 0, none⟩) := @OffA.rowNew _ 23 32 36 36 A7 (some ⟨z, 0, none⟩) (cellsOf S) hA7 inferInstance
    have hz9 : NewA w (some ⟨z, 0, none⟩) := NewA.monoS hz
    have hA9 : NewA w A7 := NewA.monoS hA7
    go_wp2_with (first | ((with_reducible apply (wpl_kUsed (t := 3))); (exact rfl); infer_instance; infer_instance) | ((with_reducible apply (wpl_kPutU (t := 3))); (exact rfl); (exact rfl); infer_instance; infer_instance; intro ws _ _) | ((with_reducible apply wpl_loadrow); (exact rfl); infer_instance; infer_instance; (first | (with_reducible assumption) | (with_reducible exact H32.size _) | kernel_rfl)) | ((with_reducible apply wpl_storerow); (exact rfl); (exact rfl); infer_instance; infer_instance; (first | (with_reducible assumption) | (with_reducible exact H32.size _) | kernel_rfl); (first | (with_reducible assumption) | (with_reducible exact H32.size _) | kernel_rfl); (first | (with_reducible exact u8s_one _) | (with_reducible assumption) | kernel_rfl); intro ws _ _))
    refine ret_row_ rfl rfl rfl (n := 3) rfl rfl ?_
    exact ⟨z, A7, c7, rfl, stepC, inferInstance, hz9, hA9, inferInstance, inferInstance, hd1, hd2⟩
theorem ksign_calls {zk : Nat} {seed : H32} {used : Int} {A : Option Addr} {n c : Nat} {m : List UInt8} {w : World} [hk : KeyAt w zk seed used] [hr : HR w A (bs m)] (hm : m.length = n) (hc : n ≤ c) (hn : n ≤ 100000) (h0 : 0 ≤ used) (h16 : used < 16) :
    Calls Tryz.prog 26 #[.pointer (some ⟨zk, 0, none⟩), .slice A n c] w fun e w' => ∃ z A' c', e = .returned (.tuple #[.agg #[.int .i64 used, .slice (some ⟨z, 0, none⟩) 36 36, .slice A' (pathA (leavesS seed) used).length c'], .int .i64 0]) ∧ Step (only zk) w w' ∧ KeyAt w' zk seed (used + 1) ∧
      NewA w (some ⟨z, 0, none⟩) ∧ NewA w A' ∧ HO w' 23 32 (some ⟨z, 0, none⟩) 36 36 (cellsOf (signS seed used m)) ∧ HO w' 23 32 A' (pathA (leavesS seed) used).length c' (cellsOf (pathA (leavesS seed) used)) :=
  (ksignD_calls hm hc hn h0 h16).mono fun _ _ ⟨z, A', c', h1, h2, h3, h4, h5, h6, h7, _⟩ => ⟨z, A', c', h1, h2, h3, h4, h5, h6, h7⟩
end Go.Proofs.YtgjnjhhhbkidbaaGreat
