/- KyJ -/
import Derived.Test.YtmnapacibpnodaaGreatUeKyI
open Go Go.RowKit
namespace Go.Proofs.YtmnapacibpnodaaGreat
def zrow (z : Nat) (A : Option Addr) : Nat → Prop := fun x => x = z ∨ rowOf A x
instance (w : World) (z : Nat) (A : Option Addr) : Sub w (only z) (zrow z A) := ⟨fun _ _ h => .inl h⟩
instance (w : World) (z : Nat) (A : Option Addr) : Sub w (rowOf A) (zrow z A) := ⟨fun _ _ h => .inr h⟩
instance OffB.zrow_ (z : Nat) (A : Option Addr) (g : Nat) [x : OffB (only z) g] [y : OffB (rowOf A) g] : OffB (zrow z A) g := ⟨fun h => h.elim x.out y.out⟩
instance (priority := 700) OffA.ofB (z : Nat) (A : Option Addr) [o : OffB (rowOf A) z] : OffA (only z) A := ⟨fun ad e h => o.out ⟨ad, e, h⟩⟩
instance Above.zrow_ (w0 : World) (z : Nat) (A : Option Addr) [x : Above w0 (only z)] [y : Above w0 (rowOf A)] : Above w0 (zrow z A) := ⟨fun k h => h.elim (x.out k) (y.out k)⟩
theorem leaves_take (seed : H32) (k : Nat) (h : k < 16) : (leavesS seed).take (k + 1) = (leavesS seed).take k ++ [publicS seed (k : Int)] := by
  have hl : k < (leavesS seed).length := by rw [leavesS_len]; exact h
  rw [List.take_add_one, List.getElem?_eq_getElem hl]
  simp [leavesS]
set_option maxRecDepth 100000 in
set_option maxHeartbeats 1600000 in
theorem rnew_calls (seed : H32) (used : Int) (w : World) :
    Calls Tryz.prog 5 #[.agg (u8s seed.l), .int .i64 used] w fun e w' => ∃ zk L lc, e = .returned (.pointer (some ⟨zk, 0, none⟩)) ∧ Step nowhere w w' ∧ NewB w zk ∧ NewA w L ∧ OffB (rowOf L) zk ∧ 16 ≤ lc ∧ HB w' zk 33 (refL seed L 16 lc (pubS seed) (min (max used 0) 16)).toArray ∧ HO w' 26 32 L 16 lc (cellsOf (leavesS seed)) := by
  have kb := fun w => run_newRef seed (min (max used 0) 16) w
  obtain ⟨u, hu⟩ : ∃ u, u = min (max used 0) 16 := ⟨_, rfl⟩
  have HU := Lib.hid hu
  clear hu
  obtain ⟨U, hU⟩ : ∃ U, U = rootL (leavesS seed) := ⟨_, rfl⟩
  obtain ⟨N, hN⟩ : ∃ N, N = pubS seed := ⟨_, rfl⟩
  have hNU : N = nameS U := by rw [hN, hU]; rfl
  have HU2 := Lib.hid hU
  have HN := Lib.hid hNU
  rw [← hN]
  clear hU hN hNU
  go_enter Tryz.func5, Tryz.ntmps5
  go_wp2_with (first | ((with_reducible apply wpl_build); (exact kb _)) | ((with_reducible apply (wpl_box_agg (dst := some 2))); (exact rfl); intro zs wzs _ _ _) | ((with_reducible apply (wpl_box_agg (dst := some 12))); (exact rfl); intro zk wzk _ _ _) | ((with_reducible apply wpl_loadrow); (exact rfl); infer_instance; infer_instance; (first | (with_reducible assumption) | (with_reducible exact H32.size _) | kernel_rfl)) | ((with_reducible apply wpl_max); (exact rfl); (exact rfl)) | ((with_reducible apply wpl_min); (exact rfl); (exact rfl)))
  have hn : NewB w zk := ⟨by
    have h1 := (inferInstance : Born wzs zk).eq
    have h2 := (stepN (w0 := w) (w := wzs)).chg.size
    omega⟩
  have o2 : OffB (only zk) zs := inferInstance
  have hbk : HB wzk zk 33 (refL seed none 0 0 zeroH u).toArray := by rw [HU.out]; infer_instance
  go_loopw [6] (fun kv wr => ∃ (k : Nat) (L : Option Addr) (lc : Nat), k ≤ 16 ∧ kv = .int .i64 (k : Int) ∧ Step nowhere w wr ∧ HB wr zs 26 (u8s seed.l) ∧ HB wr zk 33 (refL seed L k lc zeroH u).toArray ∧ HO wr 26 32 L k lc (cellsOf ((leavesS seed).take k)) ∧ NewA w L ∧ OffB (rowOf L) zk ∧ OffB (rowOf L) zs ∧ k ≤ lc) (fun kv _ => 16 - (intOf kv).toNat)
  case atStart => exact ⟨0, none, 0, by decide, rfl, stepN, inferInstance, inferInstance, ⟨Own.nil _ _ _⟩, NewA.of_none _, inferInstance, inferInstance, Nat.le_refl _⟩
  case round =>
    obtain ⟨k, L, lc, hk, rfl, _, _, _, _, _, _, _, hklc⟩ := hrel
    by_cases hlt : k < 16
    · have hltI : (k : Int) < 16 := by omega
      obtain ⟨p, hp⟩ : ∃ p, p = publicS seed (k : Int) := ⟨_, rfl⟩
      have htk := leaves_take seed k hlt
      rw [← hp] at htk
      have HP := Lib.hid hp
      have HTK := Lib.hid htk
      have kb3 := run_oneH p
      clear hp htk
      go_wp2_with fail
      refine wp_region_N ((zrow zk L)) (by kernel_rfl) (fun wd _ _ => ?_)
      refine' takeH (i := 0) (v := _) rfl (by kernel_rfl) (by kernel_rfl) (by kernel_rfl) (fun _ _ _ h => h) (yields_of (by rfl) (fun w' _ => ?_)) inferInstance ?_
      rotate_left
      · (go_simp; try with_reducible rfl)
      try simp only [Act.put, sA]; try simp only [sB, sC]
      refine' takeH (i := 1) (v := _) rfl (by kernel_rfl) (by kernel_rfl) (by kernel_rfl) (fun _ _ _ h => h) (yields_of (by rfl) (fun w' _ => ?_)) inferInstance ?_
      rotate_left
      · (go_simp; try with_reducible rfl)
      try simp only [Act.put, sA]; try simp only [sB, sC]
      refine' takeH (i := 2) (v := _) rfl (by kernel_rfl) (by kernel_rfl) (by kernel_rfl) (fun _ _ _ h => h) (yields_of (by rfl) (fun w' _ => ?_)) inferInstance ?_
      rotate_left
      · (go_simp; try with_reducible rfl)
      try simp only [Act.put, sA]; try simp only [sB, sC]
      refine' takeH (i := 3) (v := _) rfl (by kernel_rfl) (by kernel_rfl) (by kernel_rfl) (fun _ _ _ h => h) (yields_of (by rfl) (fun w' _ => ?_)) inferInstance ?_
      rotate_left
      · (go_simp; try with_reducible rfl)
      try simp only [Act.put, sA]; try simp only [sB, sC]
      refine' takeH (i := 5) (v := _) rfl (by kernel_rfl) (by kernel_rfl) (by kernel_rfl) (fun _ _ _ h => h) (yields_of (by rfl) (fun w' _ => ?_)) inferInstance ?_
      rotate_left
      · ((with_reducible apply ev_loadrow); (exact rfl); infer_instance; infer_instance; (first | (with_reducible assumption) | (with_reducible exact H32.size _) | kernel_rfl))
      try simp only [Act.put, sA]; try simp only [sB, sC]
      refine' takeH (i := 6) (v := _) rfl (by kernel_rfl) (by kernel_rfl) (by kernel_rfl) (fun _ _ _ h => h) (yields_of (by rfl) (fun w' _ => ?_)) inferInstance ?_
      rotate_left
      · (go_simp; try with_reducible rfl)
      try simp only [Act.put, sA]; try simp only [sB, sC]
      refine wpAnyH_ready (rs := [4, 7]) (by kernel_rfl) (by simp) (AllReadyH.cons rfl (fun K_ hK_ => ?br1_4) (AllReadyH.cons rfl (fun K_ hK_ => ?br1_7) AllReadyH.nil))
      case' br1_4 =>
        rw [if_pos (by kernel_rfl)]
        refine wpr_of_list ?_
        (first | ((with_reducible apply (wpl_rL (t := 31))); (exact rfl); infer_instance; infer_instance) | ((with_reducible apply (stop_dst (dst := some 25))); (try simp only [Act.put, sA, sB, sC]); ((with_reducible apply (wpl_bslice (dst := some 25))); (exact kb3 _); intro zb wb _ _ _)) | ((with_reducible apply wpl_appendH); (exact rfl); (exact rfl); infer_instance; infer_instance; infer_instance; omega; intro L2 lc2 wa _ _ _ hcap) | ((with_reducible apply (wpl_rPutL (t := 31))); (exact rfl); (exact rfl); infer_instance; infer_instance; intro ws _ _) | ((with_reducible apply wpl_loadrow); (exact rfl); infer_instance; infer_instance; (first | (with_reducible assumption) | (with_reducible exact H32.size _) | kernel_rfl)) | ((with_reducible apply wpl_loadcellN); (exact rfl); infer_instance; (exact rfl)) | ((with_reducible apply (wpl_loadhash (t := 26))); (exact rfl); infer_instance; infer_instance; (first | (with_reducible assumption) | omega)) | ((with_reducible apply (wpl_loadint (t := 3))); (exact rfl); infer_instance; infer_instance; (first | (with_reducible assumption) | omega)) | ((with_reducible apply (wpl_loadbyte (t := 5))); (exact rfl); infer_instance; infer_instance; (first | (with_reducible assumption) | omega)))
        refine wpList_nil ?_
        unfold onlyN
        refine hK_.out _ _ inferInstance (fun _ => ?_)
        clear hK_ K_
        try simp only [Act.put, sA]; try simp only [sB, sC]
        refine goH (i := 7) (by kernel_rfl) rfl (fun K_ hK_ => ?_)
        go_simp
        refine (rpublic_calls seed (k : Int) _).mono ?_
        rw [← HP.out]
        rintro e w5 ⟨rfl, _⟩
        refine hK_.out _ _ inferInstance (fun _ => ?_)
        clear hK_ K_
        try simp only [Act.put, sA]; try simp only [sB, sC]
        refine goH (i := 8) (by kernel_rfl) rfl (fun K_ hK_ => ?_)
        rw [if_pos (by kernel_rfl)]
        refine wpr_of_list ?_
        (first | ((with_reducible apply (wpl_rL (t := 31))); (exact rfl); infer_instance; infer_instance) | ((with_reducible apply (stop_dst (dst := some 25))); (try simp only [Act.put, sA, sB, sC]); ((with_reducible apply (wpl_bslice (dst := some 25))); (exact kb3 _); intro zb wb _ _ _)) | ((with_reducible apply wpl_appendH); (exact rfl); (exact rfl); infer_instance; infer_instance; infer_instance; omega; intro L2 lc2 wa _ _ _ hcap) | ((with_reducible apply (wpl_rPutL (t := 31))); (exact rfl); (exact rfl); infer_instance; infer_instance; intro ws _ _))
        refine wpList_nil ?_
        unfold onlyN
        refine hK_.out _ _ inferInstance (fun _ => ?_)
        clear hK_ K_
        try simp only [Act.put, sA]; try simp only [sB, sC]
        refine goH (i := 9) (by kernel_rfl) rfl (fun K_ hK_ => ?_)
        rw [if_pos (by kernel_rfl)]
        refine wpr_of_list ?_
        (first | ((with_reducible apply (wpl_rL (t := 31))); (exact rfl); infer_instance; infer_instance) | ((with_reducible apply (stop_dst (dst := some 25))); (try simp only [Act.put, sA, sB, sC]); ((with_reducible apply (wpl_bslice (dst := some 25))); (exact kb3 _); intro zb wb _ _ _)) | ((with_reducible apply wpl_appendH); (exact rfl); (exact rfl); infer_instance; infer_instance; infer_instance; omega; intro L2 lc2 wa _ _ _ hcap) | ((with_reducible apply (wpl_rPutL (t := 31))); (exact rfl); (exact rfl); infer_instance; infer_instance; intro ws _ _) | ((with_reducible apply wpl_appendB); (exact rfl); (exact rfl); infer_instance; (first | exact inferInstance | exact ⟨Own.nil _ _ _⟩); infer_instance; (first | (with_reducible assumption) | (with_reducible exact H32.len _) | (focus (simp; done)) | omega); (first | (with_reducible assumption) | omega); intro A' c' wa _ _ _ hcap) | ((with_reducible apply wpl_appendH); (exact rfl); (exact rfl); infer_instance; (first | exact inferInstance | exact ⟨Own.nil _ _ _⟩); infer_instance; (first | (with_reducible assumption) | omega); intro A' c' wa _ _ _ hcap))
        refine wpList_nil ?_
        unfold onlyN
        refine hK_.out _ _ inferInstance (fun _ => ?_)
        clear hK_ K_
        try simp only [Act.put, sA]; try simp only [sB, sC]
        refine' takeH (i := 10) (v := _) rfl (by kernel_rfl) (by kernel_rfl) (by kernel_rfl) (fun _ _ _ h => h) (yields_of (by rfl) (fun w' _ => ?_)) inferInstance ?_
        rotate_left
        · (go_simp; try with_reducible rfl)
        try simp only [Act.put, sA]; try simp only [sB, sC]
        refine' takeH (i := 11) (v := _) rfl (by kernel_rfl) (by kernel_rfl) (by kernel_rfl) (fun _ _ _ h => h) (yields_of (by rfl) (fun w' _ => ?_)) inferInstance ?_
        rotate_left
        · (go_simp; try with_reducible rfl)
        try simp only [Act.put, sA]; try simp only [sB, sC]
        refine goH (i := 12) (by kernel_rfl) rfl (fun K_ hK_ => ?_)
        rw [if_pos (by kernel_rfl)]
        refine wpr_of_list ?_
        (first | ((with_reducible apply (wpl_rL (t := 31))); (exact rfl); infer_instance; infer_instance) | ((with_reducible apply (stop_dst (dst := some 25))); (try simp only [Act.put, sA, sB, sC]); ((with_reducible apply (wpl_bslice (dst := some 25))); (exact kb3 _); intro zb wb _ _ _)) | ((with_reducible apply wpl_appendH); (exact rfl); (exact rfl); infer_instance; infer_instance; infer_instance; omega; intro L2 lc2 wa _ _ _ hcap) | ((with_reducible apply (wpl_rPutL (t := 31))); (exact rfl); (exact rfl); infer_instance; infer_instance; intro ws _ _) | ((with_reducible apply wpl_storerow); (exact rfl); (exact rfl); infer_instance; infer_instance; (first | (with_reducible assumption) | (with_reducible exact H32.size _) | kernel_rfl); (first | (with_reducible assumption) | (with_reducible exact H32.size _) | kernel_rfl); (first | (with_reducible exact u8s_one _) | (with_reducible assumption) | kernel_rfl); intro ws _ _) | ((with_reducible apply wpl_storecell); (exact rfl); (exact rfl); infer_instance; (exact rfl); (first | (with_reducible assumption) | omega | (focus (simp; done)) | (focus (simp; omega; done)) | decide); intro ws _ _) | ((with_reducible apply (wpl_storehash (t := 26))); (exact rfl); (exact rfl); infer_instance; infer_instance; (first | (with_reducible assumption) | omega | (focus (simp; done)) | (focus (simp; omega; done)) | decide); intro ws _ _) | ((with_reducible apply (wpl_storeint (t := 3))); (exact rfl); (exact rfl); infer_instance; (first | (with_reducible assumption) | omega); intro ws _ _) | ((with_reducible apply (wpl_storebyte (t := 5))); (exact rfl); (exact rfl); infer_instance; (first | (with_reducible assumption) | omega | (focus (simp; done)) | (focus (simp; omega; done)) | decide); (constructor <;> omega); intro ws _ _))
        refine wpList_nil ?_
        unfold onlyN
        refine hK_.out _ _ inferInstance (fun _ => ?_)
        clear hK_ K_
        try simp only [Act.put]
        refine wpAnyH_done (by kernel_rfl) ?_ _
      case' br1_7 =>
        go_simp
        refine (rpublic_calls seed (k : Int) _).mono ?_
        rw [← HP.out]
        rintro e w5 ⟨rfl, _⟩
        refine hK_.out _ _ inferInstance (fun _ => ?_)
        clear hK_ K_
        try simp only [Act.put, sA]; try simp only [sB, sC]
        refine wpAnyH_ready (rs := [4, 8]) (by kernel_rfl) (by simp) (AllReadyH.cons rfl (fun K_ hK_ => ?br2_4) (AllReadyH.cons rfl (fun K_ hK_ => ?br2_8) AllReadyH.nil))
        case' br2_4 =>
          rw [if_pos (by kernel_rfl)]
          refine wpr_of_list ?_
          (first | ((with_reducible apply (wpl_rL (t := 31))); (exact rfl); infer_instance; infer_instance) | ((with_reducible apply (stop_dst (dst := some 25))); (try simp only [Act.put, sA, sB, sC]); ((with_reducible apply (wpl_bslice (dst := some 25))); (exact kb3 _); intro zb wb _ _ _)) | ((with_reducible apply wpl_appendH); (exact rfl); (exact rfl); infer_instance; infer_instance; infer_instance; omega; intro L2 lc2 wa _ _ _ hcap) | ((with_reducible apply (wpl_rPutL (t := 31))); (exact rfl); (exact rfl); infer_instance; infer_instance; intro ws _ _) | ((with_reducible apply wpl_loadrow); (exact rfl); infer_instance; infer_instance; (first | (with_reducible assumption) | (with_reducible exact H32.size _) | kernel_rfl)) | ((with_reducible apply wpl_loadcellN); (exact rfl); infer_instance; (exact rfl)) | ((with_reducible apply (wpl_loadhash (t := 26))); (exact rfl); infer_instance; infer_instance; (first | (with_reducible assumption) | omega)) | ((with_reducible apply (wpl_loadint (t := 3))); (exact rfl); infer_instance; infer_instance; (first | (with_reducible assumption) | omega)) | ((with_reducible apply (wpl_loadbyte (t := 5))); (exact rfl); infer_instance; infer_instance; (first | (with_reducible assumption) | omega)))
          refine wpList_nil ?_
          unfold onlyN
          refine hK_.out _ _ inferInstance (fun _ => ?_)
          clear hK_ K_
          try simp only [Act.put, sA]; try simp only [sB, sC]
          refine goH (i := 8) (by kernel_rfl) rfl (fun K_ hK_ => ?_)
          rw [if_pos (by kernel_rfl)]
          refine wpr_of_list ?_
          (first | ((with_reducible apply (wpl_rL (t := 31))); (exact rfl); infer_instance; infer_instance) | ((with_reducible apply (stop_dst (dst := some 25))); (try simp only [Act.put, sA, sB, sC]); ((with_reducible apply (wpl_bslice (dst := some 25))); (exact kb3 _); intro zb wb _ _ _)) | ((with_reducible apply wpl_appendH); (exact rfl); (exact rfl); infer_instance; infer_instance; infer_instance; omega; intro L2 lc2 wa _ _ _ hcap) | ((with_reducible apply (wpl_rPutL (t := 31))); (exact rfl); (exact rfl); infer_instance; infer_instance; intro ws _ _))
          refine wpList_nil ?_
          unfold onlyN
          refine hK_.out _ _ inferInstance (fun _ => ?_)
          clear hK_ K_
          try simp only [Act.put, sA]; try simp only [sB, sC]
          refine goH (i := 9) (by kernel_rfl) rfl (fun K_ hK_ => ?_)
          rw [if_pos (by kernel_rfl)]
          refine wpr_of_list ?_
          (first | ((with_reducible apply (wpl_rL (t := 31))); (exact rfl); infer_instance; infer_instance) | ((with_reducible apply (stop_dst (dst := some 25))); (try simp only [Act.put, sA, sB, sC]); ((with_reducible apply (wpl_bslice (dst := some 25))); (exact kb3 _); intro zb wb _ _ _)) | ((with_reducible apply wpl_appendH); (exact rfl); (exact rfl); infer_instance; infer_instance; infer_instance; omega; intro L2 lc2 wa _ _ _ hcap) | ((with_reducible apply (wpl_rPutL (t := 31))); (exact rfl); (exact rfl); infer_instance; infer_instance; intro ws _ _) | ((with_reducible apply wpl_appendB); (exact rfl); (exact rfl); infer_instance; (first | exact inferInstance | exact ⟨Own.nil _ _ _⟩); infer_instance; (first | (with_reducible assumption) | (with_reducible exact H32.len _) | (focus (simp; done)) | omega); (first | (with_reducible assumption) | omega); intro A' c' wa _ _ _ hcap) | ((with_reducible apply wpl_appendH); (exact rfl); (exact rfl); infer_instance; (first | exact inferInstance | exact ⟨Own.nil _ _ _⟩); infer_instance; (first | (with_reducible assumption) | omega); intro A' c' wa _ _ _ hcap))
          refine wpList_nil ?_
          unfold onlyN
          refine hK_.out _ _ inferInstance (fun _ => ?_)
          clear hK_ K_
          try simp only [Act.put, sA]; try simp only [sB, sC]
          refine' takeH (i := 10) (v := _) rfl (by kernel_rfl) (by kernel_rfl) (by kernel_rfl) (fun _ _ _ h => h) (yields_of (by rfl) (fun w' _ => ?_)) inferInstance ?_
          rotate_left
          · (go_simp; try with_reducible rfl)
          try simp only [Act.put, sA]; try simp only [sB, sC]
          refine' takeH (i := 11) (v := _) rfl (by kernel_rfl) (by kernel_rfl) (by kernel_rfl) (fun _ _ _ h => h) (yields_of (by rfl) (fun w' _ => ?_)) inferInstance ?_
          rotate_left
          · (go_simp; try with_reducible rfl)
          try simp only [Act.put, sA]; try simp only [sB, sC]
          refine goH (i := 12) (by kernel_rfl) rfl (fun K_ hK_ => ?_)
          rw [if_pos (by kernel_rfl)]
          refine wpr_of_list ?_
          (first | ((with_reducible apply (wpl_rL (t := 31))); (exact rfl); infer_instance; infer_instance) | ((with_reducible apply (stop_dst (dst := some 25))); (try simp only [Act.put, sA, sB, sC]); ((with_reducible apply (wpl_bslice (dst := some 25))); (exact kb3 _); intro zb wb _ _ _)) | ((with_reducible apply wpl_appendH); (exact rfl); (exact rfl); infer_instance; infer_instance; infer_instance; omega; intro L2 lc2 wa _ _ _ hcap) | ((with_reducible apply (wpl_rPutL (t := 31))); (exact rfl); (exact rfl); infer_instance; infer_instance; intro ws _ _) | ((with_reducible apply wpl_storerow); (exact rfl); (exact rfl); infer_instance; infer_instance; (first | (with_reducible assumption) | (with_reducible exact H32.size _) | kernel_rfl); (first | (with_reducible assumption) | (with_reducible exact H32.size _) | kernel_rfl); (first | (with_reducible exact u8s_one _) | (with_reducible assumption) | kernel_rfl); intro ws _ _) | ((with_reducible apply wpl_storecell); (exact rfl); (exact rfl); infer_instance; (exact rfl); (first | (with_reducible assumption) | omega | (focus (simp; done)) | (focus (simp; omega; done)) | decide); intro ws _ _) | ((with_reducible apply (wpl_storehash (t := 26))); (exact rfl); (exact rfl); infer_instance; infer_instance; (first | (with_reducible assumption) | omega | (focus (simp; done)) | (focus (simp; omega; done)) | decide); intro ws _ _) | ((with_reducible apply (wpl_storeint (t := 3))); (exact rfl); (exact rfl); infer_instance; (first | (with_reducible assumption) | omega); intro ws _ _) | ((with_reducible apply (wpl_storebyte (t := 5))); (exact rfl); (exact rfl); infer_instance; (first | (with_reducible assumption) | omega | (focus (simp; done)) | (focus (simp; omega; done)) | decide); (constructor <;> omega); intro ws _ _))
          refine wpList_nil ?_
          unfold onlyN
          refine hK_.out _ _ inferInstance (fun _ => ?_)
          clear hK_ K_
          try simp only [Act.put]
          refine wpAnyH_done (by kernel_rfl) ?_ _
        case' br2_8 =>
          rw [if_pos (by kernel_rfl)]
          refine wpr_of_list ?_
          (first | ((with_reducible apply (wpl_rL (t := 31))); (exact rfl); infer_instance; infer_instance) | ((with_reducible apply (stop_dst (dst := some 25))); (try simp only [Act.put, sA, sB, sC]); ((with_reducible apply (wpl_bslice (dst := some 25))); (exact kb3 _); intro zb wb _ _ _)) | ((with_reducible apply wpl_appendH); (exact rfl); (exact rfl); infer_instance; infer_instance; infer_instance; omega; intro L2 lc2 wa _ _ _ hcap) | ((with_reducible apply (wpl_rPutL (t := 31))); (exact rfl); (exact rfl); infer_instance; infer_instance; intro ws _ _))
          refine wpList_nil ?_
          unfold onlyN
          refine hK_.out _ _ inferInstance (fun _ => ?_)
          clear hK_ K_
          try simp only [Act.put, sA]; try simp only [sB, sC]
          refine goH (i := 4) (by kernel_rfl) rfl (fun K_ hK_ => ?_)
          rw [if_pos (by kernel_rfl)]
          refine wpr_of_list ?_
          (first | ((with_reducible apply (wpl_rL (t := 31))); (exact rfl); infer_instance; infer_instance) | ((with_reducible apply (stop_dst (dst := some 25))); (try simp only [Act.put, sA, sB, sC]); ((with_reducible apply (wpl_bslice (dst := some 25))); (exact kb3 _); intro zb wb _ _ _)) | ((with_reducible apply wpl_appendH); (exact rfl); (exact rfl); infer_instance; infer_instance; infer_instance; omega; intro L2 lc2 wa _ _ _ hcap) | ((with_reducible apply (wpl_rPutL (t := 31))); (exact rfl); (exact rfl); infer_instance; infer_instance; intro ws _ _) | ((with_reducible apply wpl_loadrow); (exact rfl); infer_instance; infer_instance; (first | (with_reducible assumption) | (with_reducible exact H32.size _) | kernel_rfl)) | ((with_reducible apply wpl_loadcellN); (exact rfl); infer_instance; (exact rfl)) | ((with_reducible apply (wpl_loadhash (t := 26))); (exact rfl); infer_instance; infer_instance; (first | (with_reducible assumption) | omega)) | ((with_reducible apply (wpl_loadint (t := 3))); (exact rfl); infer_instance; infer_instance; (first | (with_reducible assumption) | omega)) | ((with_reducible apply (wpl_loadbyte (t := 5))); (exact rfl); infer_instance; infer_instance; (first | (with_reducible assumption) | omega)))
          refine wpList_nil ?_
          unfold onlyN
          refine hK_.out _ _ inferInstance (fun _ => ?_)
          clear hK_ K_
          try simp only [Act.put, sA]; try simp only [sB, sC]
          refine goH (i := 9) (by kernel_rfl) rfl (fun K_ hK_ => ?_)
          rw [if_pos (by kernel_rfl)]
          refine wpr_of_list ?_
          (first | ((with_reducible apply (wpl_rL (t := 31))); (exact rfl); infer_instance; infer_instance) | ((with_reducible apply (stop_dst (dst := some 25))); (try simp only [Act.put, sA, sB, sC]); ((with_reducible apply (wpl_bslice (dst := some 25))); (exact kb3 _); intro zb wb _ _ _)) | ((with_reducible apply wpl_appendH); (exact rfl); (exact rfl); infer_instance; infer_instance; infer_instance; omega; intro L2 lc2 wa _ _ _ hcap) | ((with_reducible apply (wpl_rPutL (t := 31))); (exact rfl); (exact rfl); infer_instance; infer_instance; intro ws _ _) | ((with_reducible apply wpl_appendB); (exact rfl); (exact rfl); infer_instance; (first | exact inferInstance | exact ⟨Own.nil _ _ _⟩); infer_instance; (first | (with_reducible assumption) | (with_reducible exact H32.len _) | (focus (simp; done)) | omega); (first | (with_reducible assumption) | omega); intro A' c' wa _ _ _ hcap) | ((with_reducible apply wpl_appendH); (exact rfl); (exact rfl); infer_instance; (first | exact inferInstance | exact ⟨Own.nil _ _ _⟩); infer_instance; (first | (with_reducible assumption) | omega); intro A' c' wa _ _ _ hcap))
          refine wpList_nil ?_
          unfold onlyN
          refine hK_.out _ _ inferInstance (fun _ => ?_)
          clear hK_ K_
          try simp only [Act.put, sA]; try simp only [sB, sC]
          refine' takeH (i := 10) (v := _) rfl (by kernel_rfl) (by kernel_rfl) (by kernel_rfl) (fun _ _ _ h => h) (yields_of (by rfl) (fun w' _ => ?_)) inferInstance ?_
          rotate_left
          · (go_simp; try with_reducible rfl)
          try simp only [Act.put, sA]; try simp only [sB, sC]
          refine' takeH (i := 11) (v := _) rfl (by kernel_rfl) (by kernel_rfl) (by kernel_rfl) (fun _ _ _ h => h) (yields_of (by rfl) (fun w' _ => ?_)) inferInstance ?_
          rotate_left
          · (go_simp; try with_reducible rfl)
          try simp only [Act.put, sA]; try simp only [sB, sC]
          refine goH (i := 12) (by kernel_rfl) rfl (fun K_ hK_ => ?_)
          rw [if_pos (by kernel_rfl)]
          refine wpr_of_list ?_
          (first | ((with_reducible apply (wpl_rL (t := 31))); (exact rfl); infer_instance; infer_instance) | ((with_reducible apply (stop_dst (dst := some 25))); (try simp only [Act.put, sA, sB, sC]); ((with_reducible apply (wpl_bslice (dst := some 25))); (exact kb3 _); intro zb wb _ _ _)) | ((with_reducible apply wpl_appendH); (exact rfl); (exact rfl); infer_instance; infer_instance; infer_instance; omega; intro L2 lc2 wa _ _ _ hcap) | ((with_reducible apply (wpl_rPutL (t := 31))); (exact rfl); (exact rfl); infer_instance; infer_instance; intro ws _ _) | ((with_reducible apply wpl_storerow); (exact rfl); (exact rfl); infer_instance; infer_instance; (first | (with_reducible assumption) | (with_reducible exact H32.size _) | kernel_rfl); (first | (with_reducible assumption) | (with_reducible exact H32.size _) | kernel_rfl); (first | (with_reducible exact u8s_one _) | (with_reducible assumption) | kernel_rfl); intro ws _ _) | ((with_reducible apply wpl_storecell); (exact rfl); (exact rfl); infer_instance; (exact rfl); (first | (with_reducible assumption) | omega | (focus (simp; done)) | (focus (simp; omega; done)) | decide); intro ws _ _) | ((with_reducible apply (wpl_storehash (t := 26))); (exact rfl); (exact rfl); infer_instance; infer_instance; (first | (with_reducible assumption) | omega | (focus (simp; done)) | (focus (simp; omega; done)) | decide); intro ws _ _) | ((with_reducible apply (wpl_storeint (t := 3))); (exact rfl); (exact rfl); infer_instance; (first | (with_reducible assumption) | omega); intro ws _ _) | ((with_reducible apply (wpl_storebyte (t := 5))); (exact rfl); (exact rfl); infer_instance; (first | (with_reducible assumption) | omega | (focus (simp; done)) | (focus (simp; omega; done)) | decide); (constructor <;> omega); intro ws _ _))
          refine wpList_nil ?_
          unfold onlyN
          refine hK_.out _ _ inferInstance (fun _ => ?_)
          clear hK_ K_
          try simp only [Act.put]
          refine wpAnyH_done (by kernel_rfl) ?_ _
      all_goals
        go_wp2_with fail
        refine ⟨⟨k + 1, L2, lc2, by omega, by go_num, ?_, inferInstance, inferInstance, ?_, inferInstance, inferInstance, inferInstance, hcap⟩, by simp [intOf]; omega⟩
        · exact stepN
        · rw [HTK.out]
          exact inferInstance
    · obtain rfl : k = 16 := by omega
      have hltI : ¬ ((16 : Nat) : Int) < 16 := by omega
      have hfin : (leavesS seed).take 16 = leavesS seed := List.take_of_length_le (by rw [leavesS_len]; exact Nat.le_refl _)
      have hO : HO wr 26 32 L 16 lc (cellsOf (leavesS seed)) := by rw [← hfin]; assumption
      have hR : HR wr L (cellsOf (leavesS seed)) := inferInstance
      clear hfin
      go_wp2_with (first | ((with_reducible apply (wpl_rL (t := 31))); (exact rfl); infer_instance; infer_instance))
      refine (rroot_calls 16 L 16 lc (leavesS seed) _ inferInstance rfl (leavesS_len seed) hklc (by decide)).mono ?_
      rw [← HU2.out]
      rintro e w5 ⟨rfl, _⟩
      go_wp2_with fail
      refine (rname_calls U _).mono ?_
      rw [← HN.out]
      rintro e w6 ⟨rfl, _⟩
      go_wp2_with (first | ((with_reducible apply (wpl_rPutP (t := 26))); (exact rfl); (exact rfl); infer_instance; infer_instance; intro ws _ _))
      go_ret
      exact ⟨zk, L, lc, rfl, stepN, inferInstance, inferInstance, inferInstance, hklc, by rw [← HU.out]; infer_instance, inferInstance⟩
end Go.Proofs.YtmnapacibpnodaaGreat
