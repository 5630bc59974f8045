/- The reference's Follow. -/
import Derived.Test.YthcleccofccbdaaGreatTbCfA
open Go Go.RowKit
namespace Go.Proofs.YthcleccofccbdaaGreat
def RFollowQ (r : RootM) (L : List EnvR) (w : World) : Ending → World → Prop := fun e w' => Step nowhere w w' ∧ ∃ v x K, ∃ (i : Nat) (err : Int), e = .returned (.tuple #[.agg (rtL v x K).toArray, .int .i64 (i : Int), .int .i64 err]) ∧ Hid (K.length = 4 ∧ ((v, x, K.map KR.m), i, err) = flwM r L 0) ∧ Hid (∀ k ∈ K, KIn w' k)
/-- keys at hand, in rows that no block of S holds -/
def KsP (w : World) (S : Nat → Prop) (K : List KR) : Prop := ∀ k ∈ K, KIn w k ∧ ∀ x, inRow k.A k.l x → ¬ S x
theorem KsP.chg {S T : Nat → Prop} {w w' : World} {K : List KR} (h : KsP w S K) (hc : Chg T w w') (hT : ∀ x, x < w.heap.size → T x → S x) : KsP w' S K := fun k hk => ⟨(h k hk).1.chg hc (fun x hx ht => (h k hk).2 x hx (hT x ((h k hk).1.low x hx) ht)), (h k hk).2⟩
set_option maxRecDepth 100000 in
set_option maxHeartbeats 3200000 in
theorem rfollow_calls (v e0 : Int) (K : List KR) (h4 : K.length = 4) {A : Option Addr} {n c : Nat} {L : List EnvR} {w : World} [hr : HR w A (cellsOf L)] (hK : ∀ k ∈ K, KIn w k) (hL : ∀ E ∈ L, EnvIn w E) (hl : L.length = n) (hmax : n ≤ 9223372036854775807) :
    Calls Tryz.prog 32 #[.agg (rtL v e0 K).toArray, .slice A n c] w (RFollowQ (v, e0, K.map KR.m) L w) := by
  have HK := Lib.hid hK
  have H4 := Lib.hid h4
  have HL := Lib.hid hL
  have HLE := Lib.hid hl
  have HRR := Lib.hid hr.out
  have hlen := rtL_len v e0 K h4
  have hone := rtL_one v e0 K
  obtain ⟨r, hr0⟩ : ∃ r : RootM, r = (v, e0, K.map KR.m) := ⟨_, rfl⟩
  have HR0 := Lib.hid hr0
  unfold RFollowQ
  rw [← hr0]
  clear hK hL h4 hr0
  go_enter Tryz.func32, Tryz.ntmps32
  go_wp2_with (first | ((with_reducible apply (wpl_alloc (dst := some 2))); intro z2 wz2 _ _ _) | ((with_reducible apply (wpl_box_agg (dst := some 2))); (exact rfl); intro z2 wz2 _ _ _) | ((with_reducible apply (wpl_box_int (dst := some 2))); (exact rfl); intro z2 wz2 _ _ _) | ((with_reducible apply (wpl_box_slice (dst := some 2))); (exact rfl); intro z2 wz2 _ _ _) | ((with_reducible apply (wpl_box_str (dst := some 2))); (exact rfl); intro z2 wz2 _ _ _) | ((with_reducible apply (wpl_box_bool (dst := some 2))); (exact rfl); intro z2 wz2 _ _ _) | ((with_reducible apply (wpl_box_ptr (dst := some 2))); (exact rfl); intro z2 wz2 _ _ _) | ((with_reducible apply (wpl_alloc (dst := some 4))); intro zo wzo _ _ _) | ((with_reducible apply (wpl_box_agg (dst := some 4))); (exact rfl); intro zo wzo _ _ _) | ((with_reducible apply (wpl_box_int (dst := some 4))); (exact rfl); intro zo wzo _ _ _) | ((with_reducible apply (wpl_box_slice (dst := some 4))); (exact rfl); intro zo wzo _ _ _) | ((with_reducible apply (wpl_box_str (dst := some 4))); (exact rfl); intro zo wzo _ _ _) | ((with_reducible apply (wpl_box_bool (dst := some 4))); (exact rfl); intro zo wzo _ _ _) | ((with_reducible apply (wpl_box_ptr (dst := some 4))); (exact rfl); intro zo wzo _ _ _) | ((with_reducible apply wpl_alloc); intro z wz _ _ _) | ((with_reducible apply wpl_box_agg); (exact rfl); intro z wz _ _ _) | ((with_reducible apply wpl_box_int); (exact rfl); intro z wz _ _ _) | ((with_reducible apply wpl_box_slice); (exact rfl); intro z wz _ _ _) | ((with_reducible apply wpl_box_str); (exact rfl); intro z wz _ _ _) | ((with_reducible apply wpl_box_bool); (exact rfl); intro z wz _ _ _) | ((with_reducible apply wpl_box_ptr); (exact rfl); intro z wz _ _ _) | ((with_reducible apply wpl_loadrow); (exact rfl); (exact inferInstance); (exact inferInstance); (first | (with_reducible assumption) | (with_reducible exact H32.size _) | (with_reducible exact enc_sz _ rfl) | kernel_rfl)) | ((with_reducible apply wpl_loadcellN); (exact rfl); (exact inferInstance); (first | (exact rfl) | (exact tg_hw _) | (exact tg_ctr _) | (exact tg_ecu _) | (exact srch_who) | (exact srch_fd))) | ((with_reducible apply wpl_storerow); (exact rfl); (exact rfl); (exact inferInstance); (exact inferInstance); (first | (with_reducible assumption) | (with_reducible exact H32.size _) | (with_reducible exact enc_sz _ rfl) | kernel_rfl); (first | (with_reducible assumption) | (with_reducible exact H32.size _) | (with_reducible exact enc_sz _ rfl) | kernel_rfl); (first | (with_reducible exact u8s_one _) | (with_reducible assumption) | (with_reducible exact enc_one _) | kernel_rfl); intro ws _ _) | ((with_reducible apply wpl_storecell); (exact rfl); (exact rfl); (exact inferInstance); (exact rfl); (first | (with_reducible assumption) | omega | (focus (simp; done)) | (focus (simp; omega; done)) | decide); intro ws _ _))
  have hz2w : w.heap.size ≤ z2 := Nat.le_of_eq (inferInstance : Born w z2).eq.symm
  have hs2 : w.heap.size ≤ wz2.heap.size := (inferInstance : SzLe w wz2).out
  have hzow : w.heap.size ≤ zo := Nat.le_trans hs2 (Nat.le_of_eq (inferInstance : Born wz2 zo).eq.symm)
  have h2s : HB wzo z2 45 (rtL v e0 K).toArray := inferInstance
  have h2o : HB wzo zo 45 (rtL 0 0 noK).toArray := inferInstance
  have h2l := h2s.out.lt
  have n0 : Nw w wzo := inferInstance
  have hst : Step nowhere w wzo := stepN
  have hKO : Hid (KsP wzo (gz2 z2 zo) K) := Lib.hid (fun k hk => ⟨(HK.out k hk).chg n0.out (fun _ _ h => h), fun x hx h => by
    have h1 := (HK.out k hk).low x hx
    rcases h with h | h <;> omega⟩)
  have a2 : Above w (only z2) := ⟨fun k h => by have h' : k = z2 := h; omega⟩
  have ao : Above w (only zo) := ⟨fun k h => by have h' : k = zo := h; omega⟩
  have hne : zo ≠ z2 := by
    have h1 := (inferInstance : HB wz2 z2 45 (rtL v e0 K).toArray).out.lt
    have h2 := (inferInstance : Born wz2 zo).eq
    omega
  have o2 : OffB (only z2) zo := ⟨fun e => hne e⟩
  have oo : OffB (only zo) z2 := ⟨fun e => hne e.symm⟩
  go_loopw [7] (fun iv wr => ∃ (k : Nat) (v1 x1 : Int) (K1 : List KR), k ≤ n ∧ iv = .int .i64 (k : Int) ∧ Step nowhere w wr ∧ HB wr z2 45 (rtL v1 x1 K1).toArray ∧ HB wr zo 45 (rtL 0 0 noK).toArray ∧ Hid (K1.length = 4 ∧ flwM r L 0 = flwM (v1, x1, K1.map KR.m) (L.drop k) k) ∧ Hid (KsP wr (gz2 z2 zo) K1)) (fun iv _ => n - (intOf iv).toNat)
  case atStart => exact ⟨0, v, e0, K, Nat.zero_le _, rfl, hst, h2s, h2o, Lib.hid ⟨H4.out, by rw [HR0.out]; rfl⟩, hKO⟩
  case round =>
    clear h2s h2o hKO hst
    obtain ⟨k, v1, x1, K1, hk, rfl, st, h7, ho, hK1, hKs⟩ := hrel
    have nr : Nw w wr := ⟨st.chg⟩
    have hl1 := rtL_len v1 x1 K1 hK1.out.1
    have ho1 := rtL_one v1 x1 K1
    have hrA : HR wr A (cellsOf L) := nr.hrR HRR.out
    have h7l2 := h7.out.lt
    have hol2 := ho.out.lt
    by_cases hlt : k < n
    · have hltI : (k : Int) < n := by omega
      have hkl : k < L.length := by rw [HLE.out]; exact hlt
      have HEI : Hid (EnvIn wr (gt L k)) := Lib.hid (EnvIn.nw (w0 := w) (HL.out _ (gt_mem L k hkl)))
      have hse : (RowC.enc (gt L k)).toArray.size = 2 := rfl
      have hoe := enc_one (gt L k)
      have hLL : L.length = n := HLE.out
      go_wp2_with (first | ((with_reducible apply wpl_alloc); intro z wz _ _ _) | ((with_reducible apply wpl_box_agg); (exact rfl); intro z wz _ _ _) | ((with_reducible apply wpl_box_int); (exact rfl); intro z wz _ _ _) | ((with_reducible apply wpl_box_slice); (exact rfl); intro z wz _ _ _) | ((with_reducible apply wpl_box_str); (exact rfl); intro z wz _ _ _) | ((with_reducible apply wpl_box_bool); (exact rfl); intro z wz _ _ _) | ((with_reducible apply wpl_box_ptr); (exact rfl); intro z wz _ _ _) | ((with_reducible apply wpl_loadrow); (exact rfl); (exact inferInstance); (exact inferInstance); (first | (with_reducible assumption) | (with_reducible exact H32.size _) | (with_reducible exact enc_sz _ rfl) | kernel_rfl)) | ((with_reducible apply wpl_loadcellN); (exact rfl); (exact inferInstance); (first | (exact rfl) | (exact tg_hw _) | (exact tg_ctr _) | (exact tg_ecu _) | (exact srch_who) | (exact srch_fd))) | ((with_reducible apply wpl_storerow); (exact rfl); (exact rfl); (exact inferInstance); (exact inferInstance); (first | (with_reducible assumption) | (with_reducible exact H32.size _) | (with_reducible exact enc_sz _ rfl) | kernel_rfl); (first | (with_reducible assumption) | (with_reducible exact H32.size _) | (with_reducible exact enc_sz _ rfl) | kernel_rfl); (first | (with_reducible exact u8s_one _) | (with_reducible assumption) | (with_reducible exact enc_one _) | kernel_rfl); intro ws _ _) | ((with_reducible apply wpl_storecell); (exact rfl); (exact rfl); (exact inferInstance); (exact rfl); (first | (with_reducible assumption) | omega | (focus (simp; done)) | (focus (simp; omega; done)) | decide); intro ws _ _))
      refine wp_region_N (nowhere) (by kernel_rfl) (fun wd _ _ => ?_)
      refine' takeH (i := 0) (v := _) rfl (by kernel_rfl) (by kernel_rfl) (by kernel_rfl) (fun _ _ _ h => h) (yields_of (by rfl) (fun w' _ => ?_)) inferInstance ?_
      rotate_left
      · (first | ((with_reducible apply ev_loadrow); (exact rfl); (exact inferInstance); (exact inferInstance); (first | (with_reducible assumption) | (with_reducible exact H32.size _) | (with_reducible exact enc_sz _ rfl) | kernel_rfl)) | ((with_reducible apply (ev_loadhash (t := 47))); (exact rfl); (exact inferInstance); (exact inferInstance); (first | (with_reducible assumption) | omega)) | ((with_reducible apply ev_loadcellN); (exact rfl); (exact inferInstance); (exact inferInstance); (first | (exact rfl) | (exact tg_hw _) | (exact tg_ctr _) | (exact tg_ecu _) | (exact srch_who) | (exact srch_fd))) | ((with_reducible apply (ev_loadE (α := EnvR) (t := 133))); (exact inferInstance); (exact rfl); (exact inferInstance); (exact rfl); (decide); (first | (with_reducible assumption) | omega | (focus (simp; done)) | (focus (simp; omega; done)) | decide)) | ((with_reducible apply (ev_loadF (α := EnvR))); (exact inferInstance); (exact rfl); (exact inferInstance); (exact rfl); (first | (with_reducible assumption) | omega | (focus (simp; done)) | (focus (simp; omega; done)) | decide); (first | (exact rfl) | (exact tg_hw _) | (exact tg_ctr _) | (exact tg_ecu _) | (exact srch_who) | (exact srch_fd))) | ((with_reducible apply (ev_loadint (t := 3))); (exact rfl); (exact inferInstance); (exact inferInstance); (first | (with_reducible assumption) | omega)) | ((with_reducible apply (ev_loadbyte (t := 5))); (exact rfl); (exact inferInstance); (exact inferInstance); (first | (with_reducible assumption) | omega)) | (go_simp; try with_reducible rfl))
      try simp only [Act.put, List.setIfInBounds_toArray]; try simp only [List.set_cons_succ, List.set_cons_zero]
      refine' takeH (i := 1) (v := _) rfl (by kernel_rfl) (by kernel_rfl) (by kernel_rfl) (fun _ _ _ h => h) (yields_of (by rfl) (fun w' _ => ?_)) inferInstance ?_
      rotate_left
      · (go_simp; try with_reducible rfl)
      try simp only [Act.put, List.setIfInBounds_toArray]; try simp only [List.set_cons_succ, List.set_cons_zero]
      refine' takeH (i := 2) (v := _) rfl (by kernel_rfl) (by kernel_rfl) (by kernel_rfl) (fun _ _ _ h => h) (yields_of (by rfl) (fun w' _ => ?_)) inferInstance ?_
      rotate_left
      · (go_simp; try with_reducible rfl)
      try simp only [Act.put, List.setIfInBounds_toArray]; try simp only [List.set_cons_succ, List.set_cons_zero]
      refine' takeH (i := 3) (v := _) rfl (by kernel_rfl) (by kernel_rfl) (by kernel_rfl) (fun _ _ _ h => h) (yields_of (by rfl) (fun w' _ => ?_)) inferInstance ?_
      rotate_left
      · (first | ((with_reducible apply ev_indexSN); (exact rfl); (exact rfl); (exact inferInstance); (first | (with_reducible assumption) | omega)) | ((with_reducible apply ev_indexS); (exact rfl); (exact rfl); (exact inferInstance); (first | (with_reducible assumption) | omega); (first | (with_reducible assumption) | omega)) | ((with_reducible apply ev_indexArr); (exact rfl); (exact rfl); (exact Tryz.underlying47); (kernel_rfl); (first | (with_reducible assumption) | omega); (first | (with_reducible assumption) | omega)) | ((with_reducible apply ev_indexH'); (exact rfl); (exact rfl); (exact inferInstance); (exact inferInstance); (first | (with_reducible assumption) | omega); (first | (with_reducible assumption) | omega); (first | (with_reducible assumption) | omega)) | ((with_reducible apply ev_indexH); (exact rfl); (exact rfl); (exact inferInstance); (exact inferInstance); (first | (with_reducible assumption) | omega); (first | (with_reducible assumption) | omega)) | ((with_reducible apply (ev_indexE (α := EnvR) (t := 75))); (exact rfl); (exact rfl); (exact inferInstance); (exact inferInstance); (first | (with_reducible assumption) | omega | (focus (simp; done)) | (focus (simp; omega; done)) | decide); (exact rfl); (decide); (first | (with_reducible assumption) | omega | (focus (simp; done)) | (focus (simp; omega; done)) | decide)) | ((with_reducible apply (ev_indexE0 (α := EnvR) (t := 75))); (exact rfl); (exact inferInstance); (exact inferInstance); (first | (with_reducible assumption) | omega | (focus (simp; done)) | (focus (simp; omega; done)) | decide); (exact rfl); (decide); (first | (with_reducible assumption) | omega | (focus (simp; done)) | (focus (simp; omega; done)) | decide)) | (go_simp; try with_reducible rfl))
      try simp only [Act.put, List.setIfInBounds_toArray]; try simp only [List.set_cons_succ, List.set_cons_zero]
      refine' takeH (i := 4) (v := _) rfl (by kernel_rfl) (by kernel_rfl) (by kernel_rfl) (fun _ _ _ h => h) (yields_of (by rfl) (fun w' _ => ?_)) inferInstance ?_
      rotate_left
      · (first | ((with_reducible apply ev_loadrow); (exact rfl); (exact inferInstance); (exact inferInstance); (first | (with_reducible assumption) | (with_reducible exact H32.size _) | (with_reducible exact enc_sz _ rfl) | kernel_rfl)) | ((with_reducible apply (ev_loadhash (t := 47))); (exact rfl); (exact inferInstance); (exact inferInstance); (first | (with_reducible assumption) | omega)) | ((with_reducible apply ev_loadcellN); (exact rfl); (exact inferInstance); (exact inferInstance); (first | (exact rfl) | (exact tg_hw _) | (exact tg_ctr _) | (exact tg_ecu _) | (exact srch_who) | (exact srch_fd))) | ((with_reducible apply (ev_loadE (α := EnvR) (t := 133))); (exact inferInstance); (exact rfl); (exact inferInstance); (exact rfl); (decide); (first | (with_reducible assumption) | omega | (focus (simp; done)) | (focus (simp; omega; done)) | decide)) | ((with_reducible apply (ev_loadF (α := EnvR))); (exact inferInstance); (exact rfl); (exact inferInstance); (exact rfl); (first | (with_reducible assumption) | omega | (focus (simp; done)) | (focus (simp; omega; done)) | decide); (first | (exact rfl) | (exact tg_hw _) | (exact tg_ctr _) | (exact tg_ecu _) | (exact srch_who) | (exact srch_fd))) | ((with_reducible apply (ev_loadint (t := 3))); (exact rfl); (exact inferInstance); (exact inferInstance); (first | (with_reducible assumption) | omega)) | ((with_reducible apply (ev_loadbyte (t := 5))); (exact rfl); (exact inferInstance); (exact inferInstance); (first | (with_reducible assumption) | omega)) | (go_simp; try with_reducible rfl))
      try simp only [Act.put, List.setIfInBounds_toArray]; try simp only [List.set_cons_succ, List.set_cons_zero]
      refine wpAnyH_ready (rs := [5, 9]) (by kernel_rfl) (by simp) (AllReadyH.cons rfl (fun K_ hK_ => ?_) (AllReadyH.cons rfl (fun K_ hK_ => ?_) AllReadyH.nil))
      focus
        go_simp
        refine (rnext_calls v1 x1 K1 hK1.out.1 (gt L k) (fun x hx => (hKs.out x hx).1.chg (stepN (w0 := wr)).chg (fun _ _ h => h)) (EnvIn.nw (w0 := wr) (n := ⟨(stepN (w0 := wr)).chg⟩) HEI.out)).mono ?_
        rintro e w6 ⟨st6, v2, x2, K2, err, rfl, hK2, hKs2⟩
        have hl2 := rtL_len v2 x2 K2 hK2.out.1
        have ho2 := rtL_one v2 x2 K2
        refine hK_.out _ _ inferInstance (fun _ => ?_)
        clear hK_ K_
        try simp only [Act.put, List.setIfInBounds_toArray]; try simp only [List.set_cons_succ, List.set_cons_zero]
        refine' takeH (i := 6) (v := _) rfl (by kernel_rfl) (by kernel_rfl) (by kernel_rfl) (fun _ _ _ h => h) (yields_of (by rfl) (fun w' _ => ?_)) inferInstance ?_
        rotate_left
        · (go_simp; try with_reducible rfl)
        try simp only [Act.put, List.setIfInBounds_toArray]; try simp only [List.set_cons_succ, List.set_cons_zero]
        refine' takeH (i := 7) (v := _) rfl (by kernel_rfl) (by kernel_rfl) (by kernel_rfl) (fun _ _ _ h => h) (yields_of (by rfl) (fun w' _ => ?_)) inferInstance ?_
        rotate_left
        · (go_simp; try with_reducible rfl)
        try simp only [Act.put, List.setIfInBounds_toArray]; try simp only [List.set_cons_succ, List.set_cons_zero]
        refine' takeH (i := 8) (v := _) rfl (by kernel_rfl) (by kernel_rfl) (by kernel_rfl) (fun _ _ _ h => h) (yields_of (by rfl) (fun w' _ => ?_)) inferInstance ?_
        rotate_left
        · (go_simp; try with_reducible rfl)
        try simp only [Act.put, List.setIfInBounds_toArray]; try simp only [List.set_cons_succ, List.set_cons_zero]
        refine goH (i := 9) (by kernel_rfl) rfl (fun K_ hK_ => ?_)
        rw [if_pos (by kernel_rfl)]
        refine wpr_of_list ?_
        (first | ((with_reducible apply wpl_storerow); (exact rfl); (exact rfl); (exact inferInstance); (exact inferInstance); (exact rfl); (exact hl2); (exact ho2); intro ws _ _) | ((with_reducible apply (wpl_alloc (dst := some 8))); intro z8 wz8 _ _ _) | ((with_reducible apply wpl_alloc); intro z wz _ _ _))
        refine wpList_nil ?_
        unfold onlyN
        refine hK_.out _ _ inferInstance (fun _ => ?_)
        clear hK_ K_
        try simp only [Act.put, List.setIfInBounds_toArray]; try simp only [List.set_cons_succ, List.set_cons_zero]
        refine goH (i := 10) (by kernel_rfl) rfl (fun K_ hK_ => ?_)
        rw [if_pos (by kernel_rfl)]
        refine wpr_of_list ?_
        (first | ((with_reducible apply wpl_storerow); (exact rfl); (exact rfl); (exact inferInstance); (exact inferInstance); (exact rfl); (exact hl2); (exact ho2); intro ws _ _) | ((with_reducible apply wpl_storerow); (exact rfl); (exact rfl); (exact inferInstance); (exact inferInstance); (first | (with_reducible assumption) | (with_reducible exact H32.size _) | (with_reducible exact enc_sz _ rfl) | kernel_rfl); (first | (with_reducible assumption) | (with_reducible exact H32.size _) | (with_reducible exact enc_sz _ rfl) | kernel_rfl); (first | (with_reducible exact u8s_one _) | (with_reducible assumption) | (with_reducible exact enc_one _) | kernel_rfl); intro ws _ _) | ((with_reducible apply wpl_storecell); (exact rfl); (exact rfl); (exact inferInstance); (exact rfl); (first | (with_reducible assumption) | omega | (focus (simp; done)) | (focus (simp; omega; done)) | decide); intro ws _ _) | ((with_reducible apply (wpl_storehash (t := 47))); (exact rfl); (exact rfl); (exact inferInstance); (exact inferInstance); (first | (with_reducible assumption) | omega | (focus (simp; done)) | (focus (simp; omega; done)) | decide); intro ws _ _) | ((with_reducible apply (wpl_storebyteH (t := 5))); (exact rfl); (exact rfl); (exact inferInstance); (first | (with_reducible assumption) | omega); (first | (with_reducible assumption) | omega); (first | (constructor <;> omega) | exact xor_u8_in _ _); intro ws _ _) | ((with_reducible apply (wpl_storeint (t := 3))); (exact rfl); (exact rfl); (exact inferInstance); (first | (with_reducible assumption) | omega); intro ws _ _) | ((with_reducible apply (wpl_storebyte (t := 5))); (exact rfl); (exact rfl); (exact inferInstance); (first | (with_reducible assumption) | omega | (focus (simp; done)) | (focus (simp; omega; done)) | decide); (constructor <;> omega); intro ws _ _))
        refine wpList_nil ?_
        unfold onlyN
        refine hK_.out _ _ inferInstance (fun _ => ?_)
        clear hK_ K_
        try simp only [Act.put]
        refine' takeH (i := 11) (v := _) rfl (by kernel_rfl) (by kernel_rfl) (by kernel_rfl) (fun _ _ _ h => h) (yields_of (by rfl) (fun w' _ => ?_)) inferInstance ?_
        rotate_left
        · (go_simp; try with_reducible rfl)
        try simp only [Act.put, List.setIfInBounds_toArray]; try simp only [List.set_cons_succ, List.set_cons_zero]
        refine wpAnyH_done (by kernel_rfl) ?_ _
      rotate_left 1
      focus
        rw [if_pos (by kernel_rfl)]
        refine wpr_of_list ?_
        (first | ((with_reducible apply wpl_storerow); (exact rfl); (exact rfl); (exact inferInstance); (exact inferInstance); (exact rfl); (exact hl2); (exact ho2); intro ws _ _) | ((with_reducible apply (wpl_alloc (dst := some 8))); intro z8 wz8 _ _ _) | ((with_reducible apply wpl_alloc); intro z wz _ _ _))
        refine wpList_nil ?_
        unfold onlyN
        refine hK_.out _ _ inferInstance (fun _ => ?_)
        clear hK_ K_
        try simp only [Act.put, List.setIfInBounds_toArray]; try simp only [List.set_cons_succ, List.set_cons_zero]
        refine goH (i := 5) (by kernel_rfl) rfl (fun K_ hK_ => ?_)
        go_simp
        refine (rnext_calls v1 x1 K1 hK1.out.1 (gt L k) (fun x hx => (hKs.out x hx).1.chg (stepN (w0 := wr)).chg (fun _ _ h => h)) (EnvIn.nw (w0 := wr) (n := ⟨(stepN (w0 := wr)).chg⟩) HEI.out)).mono ?_
        rintro e w6 ⟨st6, v2, x2, K2, err, rfl, hK2, hKs2⟩
        have hl2 := rtL_len v2 x2 K2 hK2.out.1
        have ho2 := rtL_one v2 x2 K2
        refine hK_.out _ _ inferInstance (fun _ => ?_)
        clear hK_ K_
        try simp only [Act.put, List.setIfInBounds_toArray]; try simp only [List.set_cons_succ, List.set_cons_zero]
        refine' takeH (i := 6) (v := _) rfl (by kernel_rfl) (by kernel_rfl) (by kernel_rfl) (fun _ _ _ h => h) (yields_of (by rfl) (fun w' _ => ?_)) inferInstance ?_
        rotate_left
        · (go_simp; try with_reducible rfl)
        try simp only [Act.put, List.setIfInBounds_toArray]; try simp only [List.set_cons_succ, List.set_cons_zero]
        refine' takeH (i := 7) (v := _) rfl (by kernel_rfl) (by kernel_rfl) (by kernel_rfl) (fun _ _ _ h => h) (yields_of (by rfl) (fun w' _ => ?_)) inferInstance ?_
        rotate_left
        · (go_simp; try with_reducible rfl)
        try simp only [Act.put, List.setIfInBounds_toArray]; try simp only [List.set_cons_succ, List.set_cons_zero]
        refine' takeH (i := 8) (v := _) rfl (by kernel_rfl) (by kernel_rfl) (by kernel_rfl) (fun _ _ _ h => h) (yields_of (by rfl) (fun w' _ => ?_)) inferInstance ?_
        rotate_left
        · (go_simp; try with_reducible rfl)
        try simp only [Act.put, List.setIfInBounds_toArray]; try simp only [List.set_cons_succ, List.set_cons_zero]
        refine goH (i := 10) (by kernel_rfl) rfl (fun K_ hK_ => ?_)
        rw [if_pos (by kernel_rfl)]
        refine wpr_of_list ?_
        (first | ((with_reducible apply wpl_storerow); (exact rfl); (exact rfl); (exact inferInstance); (exact inferInstance); (exact rfl); (exact hl2); (exact ho2); intro ws _ _) | ((with_reducible apply wpl_storerow); (exact rfl); (exact rfl); (exact inferInstance); (exact inferInstance); (first | (with_reducible assumption) | (with_reducible exact H32.size _) | (with_reducible exact enc_sz _ rfl) | kernel_rfl); (first | (with_reducible assumption) | (with_reducible exact H32.size _) | (with_reducible exact enc_sz _ rfl) | kernel_rfl); (first | (with_reducible exact u8s_one _) | (with_reducible assumption) | (with_reducible exact enc_one _) | kernel_rfl); intro ws _ _) | ((with_reducible apply wpl_storecell); (exact rfl); (exact rfl); (exact inferInstance); (exact rfl); (first | (with_reducible assumption) | omega | (focus (simp; done)) | (focus (simp; omega; done)) | decide); intro ws _ _) | ((with_reducible apply (wpl_storehash (t := 47))); (exact rfl); (exact rfl); (exact inferInstance); (exact inferInstance); (first | (with_reducible assumption) | omega | (focus (simp; done)) | (focus (simp; omega; done)) | decide); intro ws _ _) | ((with_reducible apply (wpl_storebyteH (t := 5))); (exact rfl); (exact rfl); (exact inferInstance); (first | (with_reducible assumption) | omega); (first | (with_reducible assumption) | omega); (first | (constructor <;> omega) | exact xor_u8_in _ _); intro ws _ _) | ((with_reducible apply (wpl_storeint (t := 3))); (exact rfl); (exact rfl); (exact inferInstance); (first | (with_reducible assumption) | omega); intro ws _ _) | ((with_reducible apply (wpl_storebyte (t := 5))); (exact rfl); (exact rfl); (exact inferInstance); (first | (with_reducible assumption) | omega | (focus (simp; done)) | (focus (simp; omega; done)) | decide); (constructor <;> omega); intro ws _ _))
        refine wpList_nil ?_
        unfold onlyN
        refine hK_.out _ _ inferInstance (fun _ => ?_)
        clear hK_ K_
        try simp only [Act.put]
        refine' takeH (i := 11) (v := _) rfl (by kernel_rfl) (by kernel_rfl) (by kernel_rfl) (fun _ _ _ h => h) (yields_of (by rfl) (fun w' _ => ?_)) inferInstance ?_
        rotate_left
        · (go_simp; try with_reducible rfl)
        try simp only [Act.put, List.setIfInBounds_toArray]; try simp only [List.set_cons_succ, List.set_cons_zero]
        refine wpAnyH_done (by kernel_rfl) ?_ _
      rotate_left 1
      all_goals
        obtain ⟨wq, hwq⟩ : ∃ wq : World, wq = ws := ⟨_, rfl⟩
        subst hwq
        have hz8 : HB wq z8 45 (rtL v2 x2 K2).toArray := inferInstance
        have hz2 : HB wq z2 45 (rtL v1 x1 K1).toArray := inferInstance
        have hzo : HB wq zo 45 (rtL 0 0 noK).toArray := inferInstance
        have ns : Nw wr wq := inferInstance
        have HFL : Hid (flwM r L 0 = if err = 0 then flwM (v2, x2, K2.map KR.m) (L.drop (k + 1)) (k + 1) else ((v1, x1, K1.map KR.m), k, err)) := Lib.hid (by
          rw [hK1.out.2, drop_gt L k hkl, flwM, ← hK2.out.2])
        have hKs6 : Hid (KsP wq (gz2 z2 zo) K1) := Lib.hid (hKs.out.chg ns.out (fun _ _ h => h.elim))
        have hK2O : Hid (KsP wq (gz2 z2 zo) K2) := Lib.hid (fun x hx => by
          have h3 := (hKs2.out x hx).2
          first
            | exact ⟨(hKs2.out x hx).1.chg (inferInstance : Nw w6 wq).out (fun _ _ h => h), fun y ⟨_, ad, e, hy⟩ h => by
                have h4 := h3.out ad e
                have h5 := (stepN (w0 := wr) (w := wd)).chg.size
                rcases h with h | h <;> omega⟩
            | exact ⟨(hKs2.out x hx).1.chg (inferInstance : Ch (only z8) w6 wq).out (fun y ⟨_, ad, e, hy⟩ h => by
                have h4 := h3.out ad e
                have h5 := (inferInstance : HB wz8 z8 45 (rtL 0 0 noK).toArray).out.lt
                have h6 : y = z8 := h
                omega), fun y ⟨_, ad, e, hy⟩ h => by
                have h4 := h3.out ad e
                have h5 := (inferInstance : SzLe wr wz8).out
                rcases h with h | h <;> omega⟩)
        by_cases he : err = 0
        · have HF2 : Hid (flwM r L 0 = flwM (v2, x2, K2.map KR.m) (L.drop (k + 1)) (k + 1)) := Lib.hid (by rw [HFL.out, if_pos he])
          have heI : (err != 0) = false := by simp [he]
          clear he HFL hrA
          go_wp2_with (first | ((with_reducible apply wpl_storerow); (exact rfl); (exact rfl); (exact hz2); (exact inferInstance); (exact rfl); (exact hl2); (exact ho2); intro ws _ _) | ((with_reducible apply wpl_loadrow); (exact rfl); (exact hz8); (exact inferInstance); (exact hl2)) | ((with_reducible apply wpl_alloc); intro z wz _ _ _) | ((with_reducible apply wpl_box_agg); (exact rfl); intro z wz _ _ _) | ((with_reducible apply wpl_box_int); (exact rfl); intro z wz _ _ _) | ((with_reducible apply wpl_box_slice); (exact rfl); intro z wz _ _ _) | ((with_reducible apply wpl_box_str); (exact rfl); intro z wz _ _ _) | ((with_reducible apply wpl_box_bool); (exact rfl); intro z wz _ _ _) | ((with_reducible apply wpl_box_ptr); (exact rfl); intro z wz _ _ _) | ((with_reducible apply wpl_loadrow); (exact rfl); (exact inferInstance); (exact inferInstance); (first | (with_reducible assumption) | (with_reducible exact H32.size _) | (with_reducible exact enc_sz _ rfl) | kernel_rfl)) | ((with_reducible apply wpl_loadcellN); (exact rfl); (exact inferInstance); (first | (exact rfl) | (exact tg_hw _) | (exact tg_ctr _) | (exact tg_ecu _) | (exact srch_who) | (exact srch_fd))) | ((with_reducible apply wpl_storerow); (exact rfl); (exact rfl); (exact inferInstance); (exact inferInstance); (first | (with_reducible assumption) | (with_reducible exact H32.size _) | (with_reducible exact enc_sz _ rfl) | kernel_rfl); (first | (with_reducible assumption) | (with_reducible exact H32.size _) | (with_reducible exact enc_sz _ rfl) | kernel_rfl); (first | (with_reducible exact u8s_one _) | (with_reducible assumption) | (with_reducible exact enc_one _) | kernel_rfl); intro ws _ _) | ((with_reducible apply wpl_storecell); (exact rfl); (exact rfl); (exact inferInstance); (exact rfl); (first | (with_reducible assumption) | omega | (focus (simp; done)) | (focus (simp; omega; done)) | decide); intro ws _ _))
          have hch : Chg (only z2) wq ws := (inferInstance : Ch (only z2) wq ws).out
          refine ⟨⟨k + 1, v2, x2, K2, by omega, by go_num, stepN, inferInstance, inferInstance, Lib.hid ⟨hK2.out.1, HF2.out⟩, Lib.hid (hK2O.out.chg hch (fun _ _ h => .inl h))⟩, by simp [intOf]; omega⟩
        · have HF2 : Hid (flwM r L 0 = ((v1, x1, K1.map KR.m), k, err)) := Lib.hid (by rw [HFL.out, if_neg he])
          have heI : (err != 0) = true := by simp [he]
          have heJ : err < 0 ∨ 0 < err := by omega
          clear he HFL hrA
          go_wp2_with (first | ((with_reducible apply wpl_storerow); (exact rfl); (exact rfl); (exact hzo); (exact inferInstance); (exact rfl); (exact hl1); (exact ho1); intro ws _ _) | ((with_reducible apply wpl_loadrow); (exact rfl); (exact hz2); (exact inferInstance); (exact hl1)) | ((with_reducible apply wpl_alloc); intro z wz _ _ _) | ((with_reducible apply wpl_box_agg); (exact rfl); intro z wz _ _ _) | ((with_reducible apply wpl_box_int); (exact rfl); intro z wz _ _ _) | ((with_reducible apply wpl_box_slice); (exact rfl); intro z wz _ _ _) | ((with_reducible apply wpl_box_str); (exact rfl); intro z wz _ _ _) | ((with_reducible apply wpl_box_bool); (exact rfl); intro z wz _ _ _) | ((with_reducible apply wpl_box_ptr); (exact rfl); intro z wz _ _ _) | ((with_reducible apply wpl_loadrow); (exact rfl); (exact inferInstance); (exact inferInstance); (first | (with_reducible assumption) | (with_reducible exact H32.size _) | (with_reducible exact enc_sz _ rfl) | kernel_rfl)) | ((with_reducible apply wpl_loadcellN); (exact rfl); (exact inferInstance); (first | (exact rfl) | (exact tg_hw _) | (exact tg_ctr _) | (exact tg_ecu _) | (exact srch_who) | (exact srch_fd))) | ((with_reducible apply wpl_storerow); (exact rfl); (exact rfl); (exact inferInstance); (exact inferInstance); (first | (with_reducible assumption) | (with_reducible exact H32.size _) | (with_reducible exact enc_sz _ rfl) | kernel_rfl); (first | (with_reducible assumption) | (with_reducible exact H32.size _) | (with_reducible exact enc_sz _ rfl) | kernel_rfl); (first | (with_reducible exact u8s_one _) | (with_reducible assumption) | (with_reducible exact enc_one _) | kernel_rfl); intro ws _ _) | ((with_reducible apply wpl_storecell); (exact rfl); (exact rfl); (exact inferInstance); (exact rfl); (first | (with_reducible assumption) | omega | (focus (simp; done)) | (focus (simp; omega; done)) | decide); intro ws _ _))
          have hch : Chg (only zo) wq ws := (inferInstance : Ch (only zo) wq ws).out
          have hKf := hKs6.out.chg hch (fun _ _ h => .inr h)
          refine ret_row3 rfl rfl rfl rfl (n := 10) hl1 rfl ⟨stepN, v1, x1, K1, k, err, rfl, Lib.hid ⟨hK1.out.1, HF2.out.symm⟩, Lib.hid (fun x hx => (hKf x hx).1)⟩
    · have hltI : ¬ (k : Int) < n := by omega
      have hkn : k = n := by omega
      have HF2 : Hid (flwM r L 0 = ((v1, x1, K1.map KR.m), n, 0)) := Lib.hid (by
        rw [hK1.out.2, List.drop_of_length_le (by rw [HLE.out]; omega), flwM, hkn])
      clear hkn hrA
      go_wp2_with (first | ((with_reducible apply wpl_storerow); (exact rfl); (exact rfl); (exact ho); (exact inferInstance); (exact rfl); (exact hl1); (exact ho1); intro ws _ _) | ((with_reducible apply wpl_loadrow); (exact rfl); (exact h7); (exact inferInstance); (exact hl1)) | ((with_reducible apply wpl_alloc); intro z wz _ _ _) | ((with_reducible apply wpl_box_agg); (exact rfl); intro z wz _ _ _) | ((with_reducible apply wpl_box_int); (exact rfl); intro z wz _ _ _) | ((with_reducible apply wpl_box_slice); (exact rfl); intro z wz _ _ _) | ((with_reducible apply wpl_box_str); (exact rfl); intro z wz _ _ _) | ((with_reducible apply wpl_box_bool); (exact rfl); intro z wz _ _ _) | ((with_reducible apply wpl_box_ptr); (exact rfl); intro z wz _ _ _) | ((with_reducible apply wpl_loadrow); (exact rfl); (exact inferInstance); (exact inferInstance); (first | (with_reducible assumption) | (with_reducible exact H32.size _) | (with_reducible exact enc_sz _ rfl) | kernel_rfl)) | ((with_reducible apply wpl_loadcellN); (exact rfl); (exact inferInstance); (first | (exact rfl) | (exact tg_hw _) | (exact tg_ctr _) | (exact tg_ecu _) | (exact srch_who) | (exact srch_fd))) | ((with_reducible apply wpl_storerow); (exact rfl); (exact rfl); (exact inferInstance); (exact inferInstance); (first | (with_reducible assumption) | (with_reducible exact H32.size _) | (with_reducible exact enc_sz _ rfl) | kernel_rfl); (first | (with_reducible assumption) | (with_reducible exact H32.size _) | (with_reducible exact enc_sz _ rfl) | kernel_rfl); (first | (with_reducible exact u8s_one _) | (with_reducible assumption) | (with_reducible exact enc_one _) | kernel_rfl); intro ws _ _) | ((with_reducible apply wpl_storecell); (exact rfl); (exact rfl); (exact inferInstance); (exact rfl); (first | (with_reducible assumption) | omega | (focus (simp; done)) | (focus (simp; omega; done)) | decide); intro ws _ _))
      have hch : Chg (only zo) wr ws := (inferInstance : Ch (only zo) wr ws).out
      have hKf := hKs.out.chg hch (fun _ _ h => .inr h)
      refine ret_row3 rfl rfl rfl rfl (n := 10) hl1 rfl ⟨stepN, v1, x1, K1, n, 0, rfl, Lib.hid ⟨hK1.out.1, HF2.out.symm⟩, Lib.hid (fun x hx => (hKf x hx).1)⟩
end Go.Proofs.YthcleccofccbdaaGreat
