/- BpB -/
import Derived.Test.YtegdihpnefoolaaTjBpA
import Derived.Test.YtegdihpnefoolaaTjSlR
open Go Go.RowKit
namespace Go.Proofs.Ytegdihpnefoolaa
set_option maxRecDepth 100000 in
set_option maxHeartbeats 3200000 in
theorem rbRead_calls {A : Option Addr} {n c : Nat} {b : List UInt8} {w : World} [hr : HR w A (bs b)] (hl : b.length = n) (hcap : n ≤ c) (hn : n ≤ 1000000) :
    Calls Try.prog 63 #[.slice A n c] w fun e w' => ∃ M m d, e = .returned (.tuple #[.agg (bkL (decS b).bank (decS b).size (decS b).sum (decS b).cnt (strL (decS b).name) M m d).toArray, .bool (dOk b)]) ∧ (decS b).mind.length = m ∧ m ≤ d ∧ HR w' M (bs (decS b).mind) ∧ NewA w M ∧ Step nowhere w w' := by
  obtain ⟨D, hD⟩ : ∃ D, D = decS b := ⟨_, rfl⟩
  obtain ⟨K, hK⟩ : ∃ K, K = dOk b := ⟨_, rfl⟩
  obtain ⟨W, hW⟩ : ∃ W, W = (!(dS6 b).e && decide ((dS6 b).b = [])) := ⟨_, rfl⟩
  have hK2 : K = (W && decide (D.bank < 2) && decide (D.size ≤ 512)) := by rw [hK, dOk, ← hW, ← hD]
  have HW : Hid ((!(dS6 b).e && decide ((dS6 b).b = [])) = W) := Lib.hid hW.symm
  have H1 : Hid ((bkS b).num.1 = D.bank) := Lib.hid (by rw [hD]; rfl)
  have H2 : Hid (((bkS b).at 1).num.1 = D.size) := Lib.hid (by rw [hD]; rfl)
  have H3 : Hid ((dS2 b).hsh32 = D.sum) := Lib.hid (by rw [hD]; rfl)
  have H4 : Hid ((dS3 b).num.1 = D.cnt) := Lib.hid (by rw [hD]; rfl)
  have H5 : Hid ((dS4 b).row.1 = D.name) := Lib.hid (by rw [hD]; rfl)
  have H6 : Hid ((dS5 b).row.1 = D.mind) := Lib.hid (by rw [hD]; rfl)
  have hb0 : (bkS b).b.length = n := hl
  have l2 : (dS2 b).b.length ≤ n := by rw [← hb0]; exact RS.at_le _ 2
  have l3 : (dS3 b).b.length ≤ n := Nat.le_trans (RS.raw_l _ _) l2
  have l4 : (dS4 b).b.length ≤ n := Nat.le_trans (RS.num_le _) l3
  have l5 : (dS5 b).b.length ≤ n := Nat.le_trans (RS.row_le _) l4
  have l6 : (dS6 b).b.length ≤ n := Nat.le_trans (RS.row_le _) l5
  have HL := Lib.hid hl
  have HRR := Lib.hid hr.out
  have HK2 := Lib.hid hK2
  rw [← hD, ← hK]
  clear hD hK hW hK2 hl hb0
  have kbR : ∀ w, (Instr.build 133 #[(0, .slice A n c)]).run Try.prog w = .ok (.agg #[.slice A n c, .bool false]) w := fun _ => by kernel_rfl
  have kbS : ∀ w, (Instr.build 57 #[(0, .int .i64 (D.bank : Int))]).run Try.prog w = .ok (.agg (bkL D.bank 0 zeroH 0 ⟨#[]⟩ none 0 0).toArray) w := fun _ => by kernel_rfl
  have hs0 := bkL_len 0 0 zeroH 0 ⟨#[]⟩ none 0 0
  have hs1 := bkL_len D.bank 0 zeroH 0 ⟨#[]⟩ none 0 0
  have ho1 := bkL_one D.bank 0 zeroH 0 ⟨#[]⟩ none 0 0
  go_enter Try.func63, Try.ntmps63
  go_wp2_with (first | go_skip | ((with_reducible apply wpl_build); (exact kbR _)) | ((with_reducible apply (wpl_alloc (dst := some 2))); intro zo wzo _ _ _) | ((with_reducible apply (wpl_box_agg (dst := some 2))); (exact rfl); intro zo wzo _ _ _) | ((with_reducible apply (wpl_box_int (dst := some 2))); (exact rfl); intro zo wzo _ _ _) | ((with_reducible apply (wpl_box_slice (dst := some 2))); (exact rfl); intro zo wzo _ _ _) | ((with_reducible apply (wpl_box_str (dst := some 2))); (exact rfl); intro zo wzo _ _ _) | ((with_reducible apply (wpl_box_bool (dst := some 2))); (exact rfl); intro zo wzo _ _ _) | ((with_reducible apply (wpl_box_ptr (dst := some 2))); (exact rfl); intro zo wzo _ _ _) | ((with_reducible apply (wpl_alloc (dst := some 8))); intro g wg _ _ _) | ((with_reducible apply (wpl_box_agg (dst := some 8))); (exact rfl); intro g wg _ _ _) | ((with_reducible apply (wpl_box_int (dst := some 8))); (exact rfl); intro g wg _ _ _) | ((with_reducible apply (wpl_box_slice (dst := some 8))); (exact rfl); intro g wg _ _ _) | ((with_reducible apply (wpl_box_str (dst := some 8))); (exact rfl); intro g wg _ _ _) | ((with_reducible apply (wpl_box_bool (dst := some 8))); (exact rfl); intro g wg _ _ _) | ((with_reducible apply (wpl_box_ptr (dst := some 8))); (exact rfl); intro g wg _ _ _) | ((with_reducible apply wpl_alloc); intro z wz _ _ _) | ((with_reducible apply wpl_box_agg); (exact rfl); intro z wz _ _ _) | ((with_reducible apply wpl_box_int); (exact rfl); intro z wz _ _ _) | ((with_reducible apply wpl_box_slice); (exact rfl); intro z wz _ _ _) | ((with_reducible apply wpl_box_str); (exact rfl); intro z wz _ _ _) | ((with_reducible apply wpl_box_bool); (exact rfl); intro z wz _ _ _) | ((with_reducible apply wpl_box_ptr); (exact rfl); intro z wz _ _ _) | ((with_reducible apply (wpl_guard (op := .load _ _))); (exact rfl)) | ((with_reducible apply (wpl_guard (op := .fieldAddr _ _ _))); (exact rfl)) | ((with_reducible apply wpl_loadrow); (exact rfl); infer_instance; infer_instance; (first | (with_reducible assumption) | (with_reducible exact H32.size _) | kernel_rfl)) | ((with_reducible apply wpl_loadcellN); (exact rfl); infer_instance; (exact rfl)) | ((with_reducible apply wpl_storerow); (exact rfl); (exact rfl); infer_instance; infer_instance; (first | (with_reducible assumption) | (with_reducible exact H32.size _) | kernel_rfl); (first | (with_reducible assumption) | (with_reducible exact H32.size _) | kernel_rfl); (first | (with_reducible exact u8s_one _) | (with_reducible assumption) | kernel_rfl); intro ws _ _) | ((with_reducible apply wpl_storecell); (exact rfl); (exact rfl); infer_instance; (exact rfl); (first | (with_reducible assumption) | omega | (focus (simp; done)) | (focus (simp; omega; done)) | decide); intro ws _ _))
  have hzo : w.heap.size ≤ zo := Nat.le_of_eq (inferInstance : Born w zo).eq.symm
  have hbg0 : HB wg g 133 #[.slice A n c, .bool false] := inferInstance
  have hbo0 : HB wg zo 57 (bkL 0 0 zeroH 0 ⟨#[]⟩ none 0 0).toArray := inferInstance
  have hgo : zo < g := by
    have e1 := (inferInstance : Born wzo g).eq
    have e2 := (inferInstance : HB wzo zo 57 (bkL 0 0 zeroH 0 ⟨#[]⟩ none 0 0).toArray).out.lt
    omega
  have hgw : w.heap.size ≤ g := by omega
  have st0 : Step nowhere w wg := stepN
  obtain ⟨d, hRR⟩ := rrAt_sl wg g hbg0 (HRR.out.later st0.chg) HL.out hcap (fun hne ad e h => by
    have h1 := rd_lt HRR.out (by simpa [bs] using hne) e
    omega)
  have hdw : (bkS b).b ≠ [] → d < w.heap.size := fun hne => by
    obtain ⟨⟨A', n', c', hn', hnc', hb', hr', hA'⟩, _, _⟩ := hRR
    have hb2 := hb'.cell 0
    rw [hbg0.out.cell 0] at hb2
    have hb3 : (some (Value.slice A n c)) = some (Value.slice A' n' c') := hb2
    injection hb3 with hb3
    injection hb3 with hA2 _ _
    subst hA2
    obtain ⟨ad, e, _⟩ := HRR.out.lt (by rw [bs_length]; exact List.length_pos_iff.2 hne)
    rw [← hA' ad e hne]
    exact rd_lt HRR.out (by simpa [bs] using (show b ≠ [] from hne)) e
  have HR0 : Hid (RRAt wg g d (bkS b)) := Lib.hid hRR
  have HDW := Lib.hid hdw
  have ag : Above w (only g) := ⟨fun k h => by have h' : k = g := h; omega⟩
  have ao : Above w (only zo) := ⟨fun k h => by have h' : k = zo := h; omega⟩
  have ogo : OffB (only g) zo := ⟨fun e => by have e' : zo = g := e; omega⟩
  have hgl := hbg0.out.lt
  clear hRR hdw
  go_wp2_with (first | go_skip | ((with_reducible apply wpl_alloc); intro z wz _ _ _) | ((with_reducible apply wpl_box_agg); (exact rfl); intro z wz _ _ _) | ((with_reducible apply wpl_box_int); (exact rfl); intro z wz _ _ _) | ((with_reducible apply wpl_box_slice); (exact rfl); intro z wz _ _ _) | ((with_reducible apply wpl_box_str); (exact rfl); intro z wz _ _ _) | ((with_reducible apply wpl_box_bool); (exact rfl); intro z wz _ _ _) | ((with_reducible apply wpl_box_ptr); (exact rfl); intro z wz _ _ _) | ((with_reducible apply (wpl_guard (op := .load _ _))); (exact rfl)) | ((with_reducible apply (wpl_guard (op := .fieldAddr _ _ _))); (exact rfl)) | ((with_reducible apply wpl_loadrow); (exact rfl); infer_instance; infer_instance; (first | (with_reducible assumption) | (with_reducible exact H32.size _) | kernel_rfl)) | ((with_reducible apply wpl_loadcellN); (exact rfl); infer_instance; (exact rfl)) | ((with_reducible apply wpl_storerow); (exact rfl); (exact rfl); infer_instance; infer_instance; (first | (with_reducible assumption) | (with_reducible exact H32.size _) | kernel_rfl); (first | (with_reducible assumption) | (with_reducible exact H32.size _) | kernel_rfl); (first | (with_reducible exact u8s_one _) | (with_reducible assumption) | kernel_rfl); intro ws _ _) | ((with_reducible apply wpl_storecell); (exact rfl); (exact rfl); infer_instance; (exact rfl); (first | (with_reducible assumption) | omega | (focus (simp; done)) | (focus (simp; omega; done)) | decide); intro ws _ _))
  refine (rrNum_calls g d (bkS b) _ HR0.out (by have h1 : (bkS b).b.length = b.length := rfl; have := HL.out; omega)).mono ?_
  rw [H1.out]
  rintro e w1 ⟨rfl, h1, c1⟩
  have st1 : Step (only g) _ w1 := ⟨c1.out⟩
  have hbo1 : HB w1 zo 57 (bkL 0 0 zeroH 0 ⟨#[]⟩ none 0 0).toArray := inferInstance
  have HR1 : Hid (RRAt w1 g d ((bkS b).at 1)) := h1
  clear c1 h1
  go_wp2_with (first | go_skip | ((with_reducible apply wpl_build); (exact kbS _)) | ((with_reducible apply wpl_storerow); (exact rfl); (exact rfl); infer_instance; infer_instance; (exact hs1); (exact hs0); (exact ho1); intro wt _ hbt) | ((with_reducible apply (wpl_alloc (dst := some 5))); intro zt wzt _ _ _) | ((with_reducible apply (wpl_box_agg (dst := some 5))); (exact rfl); intro zt wzt _ _ _) | ((with_reducible apply (wpl_box_int (dst := some 5))); (exact rfl); intro zt wzt _ _ _) | ((with_reducible apply (wpl_box_slice (dst := some 5))); (exact rfl); intro zt wzt _ _ _) | ((with_reducible apply (wpl_box_str (dst := some 5))); (exact rfl); intro zt wzt _ _ _) | ((with_reducible apply (wpl_box_bool (dst := some 5))); (exact rfl); intro zt wzt _ _ _) | ((with_reducible apply (wpl_box_ptr (dst := some 5))); (exact rfl); intro zt wzt _ _ _) | ((with_reducible apply wpl_alloc); intro z wz _ _ _) | ((with_reducible apply wpl_box_agg); (exact rfl); intro z wz _ _ _) | ((with_reducible apply wpl_box_int); (exact rfl); intro z wz _ _ _) | ((with_reducible apply wpl_box_slice); (exact rfl); intro z wz _ _ _) | ((with_reducible apply wpl_box_str); (exact rfl); intro z wz _ _ _) | ((with_reducible apply wpl_box_bool); (exact rfl); intro z wz _ _ _) | ((with_reducible apply wpl_box_ptr); (exact rfl); intro z wz _ _ _) | ((with_reducible apply (wpl_guard (op := .load _ _))); (exact rfl)) | ((with_reducible apply (wpl_guard (op := .fieldAddr _ _ _))); (exact rfl)) | ((with_reducible apply wpl_loadrow); (exact rfl); infer_instance; infer_instance; (first | (with_reducible assumption) | (with_reducible exact H32.size _) | kernel_rfl)) | ((with_reducible apply wpl_loadcellN); (exact rfl); infer_instance; (exact rfl)) | ((with_reducible apply wpl_storerow); (exact rfl); (exact rfl); infer_instance; infer_instance; (first | (with_reducible assumption) | (with_reducible exact H32.size _) | kernel_rfl); (first | (with_reducible assumption) | (with_reducible exact H32.size _) | kernel_rfl); (first | (with_reducible exact u8s_one _) | (with_reducible assumption) | kernel_rfl); intro ws _ _) | ((with_reducible apply wpl_storecell); (exact rfl); (exact rfl); infer_instance; (exact rfl); (first | (with_reducible assumption) | omega | (focus (simp; done)) | (focus (simp; omega; done)) | decide); intro ws _ _))
  have hzt1 : w1.heap.size ≤ zt := Nat.le_of_eq (inferInstance : Born w1 zt).eq.symm
  have hsz1 := st1.chg.size
  have hzt : w.heap.size ≤ zt := Nat.le_trans (Nat.le_trans st0.chg.size hsz1) hzt1
  have hgt : g ≠ zt := by omega
  have hot : zo ≠ zt := by have := hbo0.out.lt; omega
  have at_ : Above w (only zt) := ⟨fun k h => by have h' : k = zt := h; omega⟩
  have agt : Above w (gzB g zt) := ⟨fun k h => by rcases h with h | h <;> omega⟩
  have ogt : OffB (gzB g zt) zo := ⟨fun e => by rcases e with e | e <;> omega⟩
  have ott : OffB (only zt) zo := ⟨fun e => by have e' : zo = zt := e; omega⟩
  have ogt2 : OffB (only g) zt := ⟨fun e => by have e' : zt = g := e; omega⟩
  have far : ∀ (s : RS) (w1 w2 : World), s.b.length ≤ (bkS b).b.length → Step (only zt) w1 w2 → RRAt w1 g d s → RRAt w2 g d s := fun s w1 w2 hs st h => h.chg2 st.chg (fun e => hgt e) (fun hne e => by
    have h1 := HDW.out (ne_of_leB hs hne)
    have e' : d = zt := e
    omega)
  have HR1b : Hid (RRAt wt g d ((bkS b).at 1)) := Lib.hid (far _ wzt wt (RS.at_le _ 1) inferInstance (HR1.out.chg (stepN (w0 := w1) (w := wzt)).chg (fun h => h) (fun h => h)))
  have hbot : HB wt zo 57 (bkL 0 0 zeroH 0 ⟨#[]⟩ none 0 0).toArray := inferInstance
  have nt : Nw w wt := inferInstance
  have hbl : (bkS b).b.length = n := HL.out
  clear hsz1 hzt1
  refine (rrNum_calls g d ((bkS b).at 1) _ HR1b.out (by have := RS.at_le (bkS b) 1; omega)).mono ?_
  rw [H2.out]
  rintro e w2 ⟨rfl, h2, c2⟩
  have st2 : Step (only g) _ w2 := ⟨c2.out⟩
  have ht2a : HB w2 zt 57 (bkL D.bank 0 zeroH 0 ⟨#[]⟩ none 0 0).toArray := inferInstance
  have hk2 : 1 < (bkL D.bank 0 zeroH 0 ⟨#[]⟩ none 0 0).toArray.size := by rw [bkL_len]; decide
  have HR2a : Hid (RRAt w2 g d (dS2 b)) := h2
  clear c2 h2
  go_wp2_with (first | go_skip | ((with_reducible apply (wpl_storecell (k := 1) (v := .int .i64 (D.size : Int)))); (exact rfl); (exact rfl); (exact ht2a); (exact rfl); (exact hk2); intro wu _ htu) | ((with_reducible apply wpl_alloc); intro z wz _ _ _) | ((with_reducible apply wpl_box_agg); (exact rfl); intro z wz _ _ _) | ((with_reducible apply wpl_box_int); (exact rfl); intro z wz _ _ _) | ((with_reducible apply wpl_box_slice); (exact rfl); intro z wz _ _ _) | ((with_reducible apply wpl_box_str); (exact rfl); intro z wz _ _ _) | ((with_reducible apply wpl_box_bool); (exact rfl); intro z wz _ _ _) | ((with_reducible apply wpl_box_ptr); (exact rfl); intro z wz _ _ _) | ((with_reducible apply (wpl_guard (op := .load _ _))); (exact rfl)) | ((with_reducible apply (wpl_guard (op := .fieldAddr _ _ _))); (exact rfl)) | ((with_reducible apply wpl_loadrow); (exact rfl); infer_instance; infer_instance; (first | (with_reducible assumption) | (with_reducible exact H32.size _) | kernel_rfl)) | ((with_reducible apply wpl_loadcellN); (exact rfl); infer_instance; (exact rfl)) | ((with_reducible apply wpl_storerow); (exact rfl); (exact rfl); infer_instance; infer_instance; (first | (with_reducible assumption) | (with_reducible exact H32.size _) | kernel_rfl); (first | (with_reducible assumption) | (with_reducible exact H32.size _) | kernel_rfl); (first | (with_reducible exact u8s_one _) | (with_reducible assumption) | kernel_rfl); intro ws _ _) | ((with_reducible apply wpl_storecell); (exact rfl); (exact rfl); infer_instance; (exact rfl); (first | (with_reducible assumption) | omega | (focus (simp; done)) | (focus (simp; omega; done)) | decide); intro ws _ _))
  have ht2 : HB wu zt 57 (bkL D.bank D.size zeroH 0 ⟨#[]⟩ none 0 0).toArray := ⟨(bk_set1 _ _ _ _ _ _ _ _ _) ▸ htu.out⟩
  have HR2 : Hid (RRAt wu g d (dS2 b)) := Lib.hid (far _ w2 wu (RS.at_le _ 2) inferInstance HR2a.out)
  have hbo2 : HB wu zo 57 (bkL 0 0 zeroH 0 ⟨#[]⟩ none 0 0).toArray := inferInstance
  have n2 : Nw w wu := inferInstance
  clear htu ht2a HR2a HR1b HR1 HR0
  refine wp_region_N ((gzB g zt)) (by kernel_rfl) (fun wd _ _ => ?_)
  refine' takeH (i := 0) (v := _) rfl (by kernel_rfl) (by kernel_rfl) (by kernel_rfl) (fun _ _ _ h => h) (yields_of (by rfl) (fun w' _ => ?_)) inferInstance ?_
  rotate_left
  · (go_simp; try with_reducible rfl)
  try simp only [Act.put, sA]; try simp only [sB, sC]
  refine' takeH (i := 1) (v := _) rfl (by kernel_rfl) (by kernel_rfl) (by kernel_rfl) (fun _ _ _ h => h) (yields_of (by rfl) (fun w' _ => ?_)) inferInstance ?_
  rotate_left
  · (first | ((with_reducible apply ev_sl_arrB); (exact rfl); (exact Try.underlying52); (kernel_rfl)))
  try simp only [Act.put, sA]; try simp only [sB, sC]
  refine' takeH (i := 2) (v := _) rfl (by kernel_rfl) (by kernel_rfl) (by kernel_rfl) (fun _ _ _ h => h) (yields_of (by rfl) (fun w' _ => ?_)) inferInstance ?_
  rotate_left
  · (go_simp; try with_reducible rfl)
  try simp only [Act.put, sA]; try simp only [sB, sC]
  refine goH (i := 3) (by kernel_rfl) rfl (fun K_ hK_ => ?_)
  go_simp
  refine (rrRaw_calls g d (dS2 b) 32 wd (HR2.out.chg (stepN (w0 := wu) (w := wd)).chg (fun h => h) (fun h => h)) (by omega)).mono ?_
  rintro e w5 ⟨A5, n5, c5, rfl, hn5, ho5, h5, cc5, hA5⟩
  have st5 : Step (only g) wd w5 := ⟨cc5.out⟩
  have hr5 : HR w5 A5 (bs ((dS2 b).raw 32).1) := ⟨ho5.out.rd⟩
  have hle5 : n5 ≤ 32 := by
    have := hn5.out
    rcases (dS2 b).raw_c with h | h
    · omega
    · rw [h] at this; simp at this; omega
  have hfit5 : 2 + n5 ≤ (bkL D.bank D.size zeroH 0 ⟨#[]⟩ none 0 0).toArray.size := by rw [bkL_len]; omega
  have hn5' := hn5
  have h5' := h5
  clear cc5 ho5 hA5
  refine hK_.out _ _ inferInstance (fun _ => ?_)
  clear hK_ K_
  try simp only [Act.put, sA]; try simp only [sB, sC]
  refine goH (i := 4) (by kernel_rfl) rfl (fun K_ hK_ => ?_)
  rw [if_pos (by kernel_rfl)]
  refine wpr_of_list ?_
  (first | ((with_reducible apply wpl_copyP); (exact Try.underlying22); (kernel_rfl); (exact rfl); (exact rfl); infer_instance; (exact hr5); (exact hn5.out.symm); (exact hle5); (exact hfit5); (exact bk_copy (dS2 b) _ _ _ _ _ _ _); intro wc _ hbc) | ((with_reducible apply wpl_copy); (exact Try.underlying22); (kernel_rfl); (exact rfl); (exact rfl); infer_instance; infer_instance; (first | (with_reducible assumption) | (with_reducible exact H32.len _) | (focus (simp; done))); (first | (with_reducible assumption) | omega); (first | (with_reducible assumption) | omega | (focus (simp; done)) | (focus (simp; omega; done)) | decide); intro wc _ _))
  refine wpList_nil ?_
  unfold onlyN
  refine hK_.out _ _ inferInstance (fun _ => ?_)
  clear hK_ K_
  try simp only [Act.put, sA]; try simp only [sB, sC]
  refine wpAnyH_done (by kernel_rfl) ?_ _
  rw [H3.out] at hbc
  have HR3 : Hid (RRAt wc g d (dS3 b)) := Lib.hid (far _ w5 wc (by omega) inferInstance h5'.out)
  have hbo3 : HB wc zo 57 (bkL 0 0 zeroH 0 ⟨#[]⟩ none 0 0).toArray := inferInstance
  have n3 : Nw w wc := inferInstance
  clear h5' h5 hn5 hn5' hr5 hfit5 hle5
  go_wp2_with (first | go_skip | ((with_reducible apply wpl_alloc); intro z wz _ _ _) | ((with_reducible apply wpl_box_agg); (exact rfl); intro z wz _ _ _) | ((with_reducible apply wpl_box_int); (exact rfl); intro z wz _ _ _) | ((with_reducible apply wpl_box_slice); (exact rfl); intro z wz _ _ _) | ((with_reducible apply wpl_box_str); (exact rfl); intro z wz _ _ _) | ((with_reducible apply wpl_box_bool); (exact rfl); intro z wz _ _ _) | ((with_reducible apply wpl_box_ptr); (exact rfl); intro z wz _ _ _) | ((with_reducible apply (wpl_guard (op := .load _ _))); (exact rfl)) | ((with_reducible apply (wpl_guard (op := .fieldAddr _ _ _))); (exact rfl)) | ((with_reducible apply wpl_loadrow); (exact rfl); infer_instance; infer_instance; (first | (with_reducible assumption) | (with_reducible exact H32.size _) | kernel_rfl)) | ((with_reducible apply wpl_loadcellN); (exact rfl); infer_instance; (exact rfl)) | ((with_reducible apply wpl_storerow); (exact rfl); (exact rfl); infer_instance; infer_instance; (first | (with_reducible assumption) | (with_reducible exact H32.size _) | kernel_rfl); (first | (with_reducible assumption) | (with_reducible exact H32.size _) | kernel_rfl); (first | (with_reducible exact u8s_one _) | (with_reducible assumption) | kernel_rfl); intro ws _ _) | ((with_reducible apply wpl_storecell); (exact rfl); (exact rfl); infer_instance; (exact rfl); (first | (with_reducible assumption) | omega | (focus (simp; done)) | (focus (simp; omega; done)) | decide); intro ws _ _))
  refine (rrNum_calls g d (dS3 b) _ HR3.out (by omega)).mono ?_
  rw [H4.out]
  rintro e w6 ⟨rfl, h6, c6⟩
  have st6 : Step (only g) _ w6 := ⟨c6.out⟩
  have ht6 : HB w6 zt 57 (bkL D.bank D.size D.sum 0 ⟨#[]⟩ none 0 0).toArray := inferInstance
  have hk6 : 34 < (bkL D.bank D.size D.sum 0 ⟨#[]⟩ none 0 0).toArray.size := by rw [bkL_len]; decide
  have HR6 : Hid (RRAt w6 g d (dS4 b)) := h6
  clear c6 h6
  go_wp2_with (first | go_skip | ((with_reducible apply wpl_storecell); (exact rfl); (exact rfl); (exact ht6); (exact rfl); (exact hk6); intro wk _ htk) | ((with_reducible apply wpl_alloc); intro z wz _ _ _) | ((with_reducible apply wpl_box_agg); (exact rfl); intro z wz _ _ _) | ((with_reducible apply wpl_box_int); (exact rfl); intro z wz _ _ _) | ((with_reducible apply wpl_box_slice); (exact rfl); intro z wz _ _ _) | ((with_reducible apply wpl_box_str); (exact rfl); intro z wz _ _ _) | ((with_reducible apply wpl_box_bool); (exact rfl); intro z wz _ _ _) | ((with_reducible apply wpl_box_ptr); (exact rfl); intro z wz _ _ _) | ((with_reducible apply (wpl_guard (op := .load _ _))); (exact rfl)) | ((with_reducible apply (wpl_guard (op := .fieldAddr _ _ _))); (exact rfl)) | ((with_reducible apply wpl_loadrow); (exact rfl); infer_instance; infer_instance; (first | (with_reducible assumption) | (with_reducible exact H32.size _) | kernel_rfl)) | ((with_reducible apply wpl_loadcellN); (exact rfl); infer_instance; (exact rfl)) | ((with_reducible apply wpl_storerow); (exact rfl); (exact rfl); infer_instance; infer_instance; (first | (with_reducible assumption) | (with_reducible exact H32.size _) | kernel_rfl); (first | (with_reducible assumption) | (with_reducible exact H32.size _) | kernel_rfl); (first | (with_reducible exact u8s_one _) | (with_reducible assumption) | kernel_rfl); intro ws _ _) | ((with_reducible apply wpl_storecell); (exact rfl); (exact rfl); infer_instance; (exact rfl); (first | (with_reducible assumption) | omega | (focus (simp; done)) | (focus (simp; omega; done)) | decide); intro ws _ _))
  have ht7 : HB wk zt 57 (bkL D.bank D.size D.sum D.cnt ⟨#[]⟩ none 0 0).toArray := ⟨(bk_set34 _ _ _ _ _ _ _ _ _) ▸ htk.out⟩
  have HR7 := Lib.hid (far (dS4 b) w6 wk (by omega) inferInstance HR6.out)
  have hbo7 : HB wk zo 57 (bkL 0 0 zeroH 0 ⟨#[]⟩ none 0 0).toArray := inferInstance
  have n7 : Nw w wk := inferInstance
  clear htk
  refine (rrBytes_calls g d (dS4 b) wk HR7.out (by omega)).mono ?_
  rw [H5.out]
  rintro e w8 ⟨A8, n8, c8, rfl, hn8, ho8, h8, cc8, hA8⟩
  have st8 : Step (only g) _ w8 := ⟨cc8.out⟩
  have hr8 : HR w8 A8 (bs D.name) := ⟨ho8.out.rd⟩
  have hle8 : D.name.length = n8 := hn8.out.symm
  have HR8 : Hid (RRAt w8 g d (dS5 b)) := h8
  have ht8 : HB w8 zt 57 (bkL D.bank D.size D.sum D.cnt ⟨#[]⟩ none 0 0).toArray := inferInstance
  have hk8 : 35 < (bkL D.bank D.size D.sum D.cnt ⟨#[]⟩ none 0 0).toArray.size := by rw [bkL_len]; decide
  clear cc8 h8 hA8 hn8 ho8
  go_wp2_with (first | go_skip | ((with_reducible apply wpl_conv); (exact rfl); (exact hr8); (exact hle8); (exact Try.underlying22); (exact Try.underlying5); (exact Try.underlying9)) | ((with_reducible apply wpl_storecell); (exact rfl); (exact rfl); (exact ht8); (exact rfl); (exact hk8); intro wm _ htm) | ((with_reducible apply wpl_alloc); intro z wz _ _ _) | ((with_reducible apply wpl_box_agg); (exact rfl); intro z wz _ _ _) | ((with_reducible apply wpl_box_int); (exact rfl); intro z wz _ _ _) | ((with_reducible apply wpl_box_slice); (exact rfl); intro z wz _ _ _) | ((with_reducible apply wpl_box_str); (exact rfl); intro z wz _ _ _) | ((with_reducible apply wpl_box_bool); (exact rfl); intro z wz _ _ _) | ((with_reducible apply wpl_box_ptr); (exact rfl); intro z wz _ _ _) | ((with_reducible apply (wpl_guard (op := .load _ _))); (exact rfl)) | ((with_reducible apply (wpl_guard (op := .fieldAddr _ _ _))); (exact rfl)) | ((with_reducible apply wpl_loadrow); (exact rfl); infer_instance; infer_instance; (first | (with_reducible assumption) | (with_reducible exact H32.size _) | kernel_rfl)) | ((with_reducible apply wpl_loadcellN); (exact rfl); infer_instance; (exact rfl)) | ((with_reducible apply wpl_storerow); (exact rfl); (exact rfl); infer_instance; infer_instance; (first | (with_reducible assumption) | (with_reducible exact H32.size _) | kernel_rfl); (first | (with_reducible assumption) | (with_reducible exact H32.size _) | kernel_rfl); (first | (with_reducible exact u8s_one _) | (with_reducible assumption) | kernel_rfl); intro ws _ _) | ((with_reducible apply wpl_storecell); (exact rfl); (exact rfl); infer_instance; (exact rfl); (first | (with_reducible assumption) | omega | (focus (simp; done)) | (focus (simp; omega; done)) | decide); intro ws _ _))
  have ht9 : HB wm zt 57 (bkL D.bank D.size D.sum D.cnt (strL D.name) none 0 0).toArray := ⟨(bk_set35 _ _ _ _ _ _ _ _ _) ▸ htm.out⟩
  have HR9 := Lib.hid (far (dS5 b) w8 wm (by omega) inferInstance HR8.out)
  have hbo9 : HB wm zo 57 (bkL 0 0 zeroH 0 ⟨#[]⟩ none 0 0).toArray := inferInstance
  have n9 : Nw w wm := inferInstance
  clear htm hr8
  refine (rrBytes_calls g d (dS5 b) wm HR9.out (by omega)).mono ?_
  rw [H6.out]
  rintro e wx ⟨M, m, dm, rfl, hnx, hox, hx, ccx, hAx⟩
  have stx : Step (only g) _ wx := ⟨ccx.out⟩
  have hoM : HO wx 5 1 M m dm (bs D.mind) := ⟨hox.out⟩
  have hleM : D.mind.length = m := hnx.out.symm
  have hcapM := own_cap hox.out
  have hnM : NewA wm M := ⟨hAx.out⟩
  have HRX : Hid (RRAt wx g d (dS6 b)) := hx
  have htx : HB wx zt 57 (bkL D.bank D.size D.sum D.cnt (strL D.name) none 0 0).toArray := inferInstance
  have hkx : 36 < (bkL D.bank D.size D.sum D.cnt (strL D.name) none 0 0).toArray.size := by rw [bkL_len]; decide
  have hzt9 := ht9.out.lt
  have hzo9 := hbo9.out.lt
  have oM : OffA (only zt) M := ⟨fun ad e h => by have h' : ad.block = zt := h; have := hnM.out ad e; omega⟩
  have oMo : OffA (only zo) M := ⟨fun ad e h => by have h' : ad.block = zo := h; have := hnM.out ad e; omega⟩
  have hnMw : NewA w M := NewA.monoS hnM
  have HLM := Lib.hid hleM
  clear ccx hx hAx hnx hox hleM
  go_wp2_with (first | go_skip | ((with_reducible apply wpl_storecell); (exact rfl); (exact rfl); (exact htx); (exact rfl); (exact hkx); intro wy _ hty) | ((with_reducible apply wpl_alloc); intro z wz _ _ _) | ((with_reducible apply wpl_box_agg); (exact rfl); intro z wz _ _ _) | ((with_reducible apply wpl_box_int); (exact rfl); intro z wz _ _ _) | ((with_reducible apply wpl_box_slice); (exact rfl); intro z wz _ _ _) | ((with_reducible apply wpl_box_str); (exact rfl); intro z wz _ _ _) | ((with_reducible apply wpl_box_bool); (exact rfl); intro z wz _ _ _) | ((with_reducible apply wpl_box_ptr); (exact rfl); intro z wz _ _ _) | ((with_reducible apply (wpl_guard (op := .load _ _))); (exact rfl)) | ((with_reducible apply (wpl_guard (op := .fieldAddr _ _ _))); (exact rfl)) | ((with_reducible apply wpl_loadrow); (exact rfl); infer_instance; infer_instance; (first | (with_reducible assumption) | (with_reducible exact H32.size _) | kernel_rfl)) | ((with_reducible apply wpl_loadcellN); (exact rfl); infer_instance; (exact rfl)) | ((with_reducible apply wpl_storerow); (exact rfl); (exact rfl); infer_instance; infer_instance; (first | (with_reducible assumption) | (with_reducible exact H32.size _) | kernel_rfl); (first | (with_reducible assumption) | (with_reducible exact H32.size _) | kernel_rfl); (first | (with_reducible exact u8s_one _) | (with_reducible assumption) | kernel_rfl); intro ws _ _) | ((with_reducible apply wpl_storecell); (exact rfl); (exact rfl); infer_instance; (exact rfl); (first | (with_reducible assumption) | omega | (focus (simp; done)) | (focus (simp; omega; done)) | decide); intro ws _ _))
  have ht10 : HB wy zt 57 (bkL D.bank D.size D.sum D.cnt (strL D.name) M m dm).toArray := ⟨(bk_set36 _ _ _ _ _ _ _ _ _ _ _) ▸ hty.out⟩
  have HRY := Lib.hid (far (dS6 b) wx wy (by omega) inferInstance HRX.out)
  have hbo10 : HB wy zo 57 (bkL 0 0 zeroH 0 ⟨#[]⟩ none 0 0).toArray := inferInstance
  have hoM10 : HO wy 5 1 M m dm (bs D.mind) := inferInstance
  have n10 : Nw w wy := inferInstance
  have hsz := bkL_len D.bank D.size D.sum D.cnt (strL D.name) M m dm
  have hone := bkL_one D.bank D.size D.sum D.cnt (strL D.name) M m dm
  clear hty htx
  by_cases hWt : W = true
  · subst hWt
    by_cases hb2 : D.bank < 2
    · have HFA : Hid (((D.bank : Int) ≤ 1) = True) := Lib.hid (by simp; omega)
      have hbI : (D.bank : Int) ≤ 1 := by omega
      have hdI : decide ((D.size : Int) ≤ 512) = decide (D.size ≤ 512) := by
        by_cases h : D.size ≤ 512
        · rw [decide_eq_true h, decide_eq_true (by omega)]
        · rw [decide_eq_false h, decide_eq_false (by omega)]
      have HFB := Lib.hid hdI
      have hKK : K = decide (D.size ≤ 512) := by rw [HK2.out]; simp [hb2]
      subst hKK
      clear hdI
      go_wp2_with (first | go_skip | ((with_reducible apply wpl_alloc); intro z wz _ _ _) | ((with_reducible apply wpl_box_agg); (exact rfl); intro z wz _ _ _) | ((with_reducible apply wpl_box_int); (exact rfl); intro z wz _ _ _) | ((with_reducible apply wpl_box_slice); (exact rfl); intro z wz _ _ _) | ((with_reducible apply wpl_box_str); (exact rfl); intro z wz _ _ _) | ((with_reducible apply wpl_box_bool); (exact rfl); intro z wz _ _ _) | ((with_reducible apply wpl_box_ptr); (exact rfl); intro z wz _ _ _) | ((with_reducible apply (wpl_guard (op := .load _ _))); (exact rfl)) | ((with_reducible apply (wpl_guard (op := .fieldAddr _ _ _))); (exact rfl)) | ((with_reducible apply wpl_loadrow); (exact rfl); infer_instance; infer_instance; (first | (with_reducible assumption) | (with_reducible exact H32.size _) | kernel_rfl)) | ((with_reducible apply wpl_loadcellN); (exact rfl); infer_instance; (exact rfl)) | ((with_reducible apply wpl_storerow); (exact rfl); (exact rfl); infer_instance; infer_instance; (first | (with_reducible assumption) | (with_reducible exact H32.size _) | kernel_rfl); (first | (with_reducible assumption) | (with_reducible exact H32.size _) | kernel_rfl); (first | (with_reducible exact u8s_one _) | (with_reducible assumption) | kernel_rfl); intro ws _ _) | ((with_reducible apply wpl_storecell); (exact rfl); (exact rfl); infer_instance; (exact rfl); (first | (with_reducible assumption) | omega | (focus (simp; done)) | (focus (simp; omega; done)) | decide); intro ws _ _))
      refine wp_region_N ((only zo)) (by kernel_rfl) (fun wd _ _ => ?_)
      refine' takeH (i := 0) (v := _) rfl (by kernel_rfl) (by kernel_rfl) (by kernel_rfl) (fun _ _ _ h => h) (yields_of (by rfl) (fun w' _ => ?_)) inferInstance ?_
      rotate_left
      · (first | ((with_reducible apply ev_loadrow); (exact rfl); infer_instance; infer_instance; (exact bkL_len _ _ _ _ _ _ _ _)))
      try simp only [Act.put, sA]; try simp only [sB, sC]
      refine' takeH (i := 1) (v := _) rfl (by kernel_rfl) (by kernel_rfl) (by kernel_rfl) (fun _ _ _ h => h) (yields_of (by rfl) (fun w' _ => ?_)) inferInstance ?_
      rotate_left
      · (go_simp; try with_reducible rfl)
      try simp only [Act.put, sA]; try simp only [sB, sC]
      refine goH (i := 2) (by kernel_rfl) rfl (fun K_ hK_ => ?_)
      go_simp
      refine (rrWhole_calls g d (dS6 b) wd (HRY.out.chg (stepN (w0 := wy) (w := wd)).chg (fun h => h) (fun h => h)) (by omega)).mono ?_
      rw [HW.out]
      rintro e we ⟨rfl, rfl⟩
      refine hK_.out _ _ inferInstance (fun _ => ?_)
      clear hK_ K_
      try simp only [Act.put, sA]; try simp only [sB, sC]
      refine' takeH (i := 3) (v := _) rfl (by kernel_rfl) (by kernel_rfl) (by kernel_rfl) (fun _ _ _ h => h) (yields_of (by rfl) (fun w' _ => ?_)) inferInstance ?_
      rotate_left
      · (go_simp; try with_reducible rfl)
      try simp only [Act.put, sA]; try simp only [sB, sC]
      refine' takeH (i := 4) (v := _) rfl (by kernel_rfl) (by kernel_rfl) (by kernel_rfl) (fun _ _ _ h => h) (yields_of (by rfl) (fun w' _ => ?_)) inferInstance ?_
      rotate_left
      · (go_simp; try with_reducible rfl)
      try simp only [Act.put, sA]; try simp only [sB, sC]
      refine' takeH (i := 5) (v := _) rfl (by kernel_rfl) (by kernel_rfl) (by kernel_rfl) (fun _ _ _ h => h) (yields_of (by rfl) (fun w' _ => ?_)) inferInstance ?_
      rotate_left
      · (first | ((with_reducible apply (ev_loadcell (k := 0))); (exact rfl); infer_instance; infer_instance; (exact bk_get0 _ _ _ _ _ _ _ _)))
      try simp only [Act.put, sA]; try simp only [sB, sC]
      refine' takeH (i := 6) (v := _) rfl (by kernel_rfl) (by kernel_rfl) (by kernel_rfl) (fun _ _ _ h => h) (yields_of (by rfl) (fun w' _ => ?_)) inferInstance ?_
      rotate_left
      · (go_simp; try with_reducible rfl)
      try simp only [Act.put, sA]; try simp only [sB, sC]
      try simp only [HFA.out]
      try simp only [HFB.out]
      refine' takeH (i := 7) (v := _) rfl (by kernel_rfl) (by kernel_rfl) (by kernel_rfl) (fun _ _ _ h => h) (yields_of (by rfl) (fun w' _ => ?_)) inferInstance ?_
      rotate_left
      · (go_simp; try with_reducible rfl)
      try simp only [Act.put, sA]; try simp only [sB, sC]
      refine' takeH (i := 8) (v := _) rfl (by kernel_rfl) (by kernel_rfl) (by kernel_rfl) (fun _ _ _ h => h) (yields_of (by rfl) (fun w' _ => ?_)) inferInstance ?_
      rotate_left
      · (go_simp; try with_reducible rfl)
      try simp only [Act.put, sA]; try simp only [sB, sC]
      refine' takeH (i := 9) (v := _) rfl (by kernel_rfl) (by kernel_rfl) (by kernel_rfl) (fun _ _ _ h => h) (yields_of (by rfl) (fun w' _ => ?_)) inferInstance ?_
      rotate_left
      · (go_simp; try with_reducible rfl)
      try simp only [Act.put, sA]; try simp only [sB, sC]
      refine' takeH (i := 10) (v := _) rfl (by kernel_rfl) (by kernel_rfl) (by kernel_rfl) (fun _ _ _ h => h) (yields_of (by rfl) (fun w' _ => ?_)) inferInstance ?_
      rotate_left
      · (first | ((with_reducible apply (ev_loadcell (k := 1))); (exact rfl); infer_instance; infer_instance; (exact bk_get1 _ _ _ _ _ _ _ _)))
      try simp only [Act.put, sA]; try simp only [sB, sC]
      refine' takeH (i := 11) (v := _) rfl (by kernel_rfl) (by kernel_rfl) (by kernel_rfl) (fun _ _ _ h => h) (yields_of (by rfl) (fun w' _ => ?_)) inferInstance ?_
      rotate_left
      · (go_simp; try with_reducible rfl)
      try simp only [Act.put, sA]; try simp only [sB, sC]
      try simp only [HFA.out]
      try simp only [HFB.out]
      refine' takeH (i := 12) (v := _) rfl (by kernel_rfl) (by kernel_rfl) (by kernel_rfl) (fun _ _ _ h => h) (yields_of (by rfl) (fun w' _ => ?_)) inferInstance ?_
      rotate_left
      · (go_simp; try with_reducible rfl)
      try simp only [Act.put, sA]; try simp only [sB, sC]
      refine goH (i := 13) (by kernel_rfl) rfl (fun K_ hK_ => ?_)
      rw [if_pos (by kernel_rfl)]
      refine wpr_of_list ?_
      (first | ((with_reducible apply wpl_storerow); (exact rfl); (exact rfl); infer_instance; infer_instance; (exact hsz); (exact bkL_len _ _ _ _ _ _ _ _); (exact hone); intro wf _ hbf) | ((with_reducible apply wpl_storerow); (exact rfl); (exact rfl); infer_instance; infer_instance; (first | (with_reducible assumption) | (with_reducible exact H32.size _) | kernel_rfl); (first | (with_reducible assumption) | (with_reducible exact H32.size _) | kernel_rfl); (first | (with_reducible exact u8s_one _) | (with_reducible assumption) | kernel_rfl); intro ws _ _) | ((with_reducible apply wpl_storecell); (exact rfl); (exact rfl); infer_instance; (exact rfl); (first | (with_reducible assumption) | omega | (focus (simp; done)) | (focus (simp; omega; done)) | decide); intro ws _ _) | ((with_reducible apply (wpl_storehash (t := 52))); (exact rfl); (exact rfl); infer_instance; infer_instance; (first | (with_reducible assumption) | omega | (focus (simp; done)) | (focus (simp; omega; done)) | decide); intro ws _ _) | ((with_reducible apply (wpl_storebyteH (t := 5))); (exact rfl); (exact rfl); infer_instance; (first | (with_reducible assumption) | omega); (first | (with_reducible assumption) | omega); (first | (constructor <;> omega) | exact xor_u8_in _ _); intro ws _ _) | ((with_reducible apply (wpl_storeint (t := 3))); (exact rfl); (exact rfl); infer_instance; (first | (with_reducible assumption) | omega); intro ws _ _) | ((with_reducible apply (wpl_storebyte (t := 5))); (exact rfl); (exact rfl); infer_instance; (first | (with_reducible assumption) | omega | (focus (simp; done)) | (focus (simp; omega; done)) | decide); (constructor <;> omega); intro ws _ _))
      refine wpList_nil ?_
      unfold onlyN
      refine hK_.out _ _ inferInstance (fun _ => ?_)
      clear hK_ K_
      try simp only [Act.put]
      refine' takeH (i := 14) (v := _) rfl (by kernel_rfl) (by kernel_rfl) (by kernel_rfl) (fun _ _ _ h => h) (yields_of (by rfl) (fun w' _ => ?_)) inferInstance ?_
      rotate_left
      · (go_simp; try with_reducible rfl)
      try simp only [Act.put, sA]; try simp only [sB, sC]
      refine wpAnyH_done (by kernel_rfl) ?_ _
      go_wp2_with (first | go_skip | ((with_reducible apply wpl_alloc); intro z wz _ _ _) | ((with_reducible apply wpl_box_agg); (exact rfl); intro z wz _ _ _) | ((with_reducible apply wpl_box_int); (exact rfl); intro z wz _ _ _) | ((with_reducible apply wpl_box_slice); (exact rfl); intro z wz _ _ _) | ((with_reducible apply wpl_box_str); (exact rfl); intro z wz _ _ _) | ((with_reducible apply wpl_box_bool); (exact rfl); intro z wz _ _ _) | ((with_reducible apply wpl_box_ptr); (exact rfl); intro z wz _ _ _) | ((with_reducible apply (wpl_guard (op := .load _ _))); (exact rfl)) | ((with_reducible apply (wpl_guard (op := .fieldAddr _ _ _))); (exact rfl)) | ((with_reducible apply wpl_loadrow); (exact rfl); infer_instance; infer_instance; (first | (with_reducible assumption) | (with_reducible exact H32.size _) | kernel_rfl)) | ((with_reducible apply wpl_loadcellN); (exact rfl); infer_instance; (exact rfl)) | ((with_reducible apply wpl_storerow); (exact rfl); (exact rfl); infer_instance; infer_instance; (first | (with_reducible assumption) | (with_reducible exact H32.size _) | kernel_rfl); (first | (with_reducible assumption) | (with_reducible exact H32.size _) | kernel_rfl); (first | (with_reducible exact u8s_one _) | (with_reducible assumption) | kernel_rfl); intro ws _ _) | ((with_reducible apply wpl_storecell); (exact rfl); (exact rfl); infer_instance; (exact rfl); (first | (with_reducible assumption) | omega | (focus (simp; done)) | (focus (simp; omega; done)) | decide); intro ws _ _))
      exact ret_row_ rfl rfl rfl (n := 37) (bkL_len _ _ _ _ _ _ _ _) rfl ⟨M, m, dm, rfl, HLM.out, hcapM, inferInstance, hnMw, stepN⟩
    · have hbI : ¬ (D.bank : Int) ≤ 1 := by omega
      have HFA : Hid (decide ((D.bank : Int) ≤ 1) = false) := Lib.hid (decide_eq_false (by omega))
      have HFB : Hid (True = True) := Lib.hid rfl
      have hKK : K = false := by rw [HK2.out]; simp [hb2]
      subst hKK
      go_wp2_with (first | go_skip | ((with_reducible apply wpl_alloc); intro z wz _ _ _) | ((with_reducible apply wpl_box_agg); (exact rfl); intro z wz _ _ _) | ((with_reducible apply wpl_box_int); (exact rfl); intro z wz _ _ _) | ((with_reducible apply wpl_box_slice); (exact rfl); intro z wz _ _ _) | ((with_reducible apply wpl_box_str); (exact rfl); intro z wz _ _ _) | ((with_reducible apply wpl_box_bool); (exact rfl); intro z wz _ _ _) | ((with_reducible apply wpl_box_ptr); (exact rfl); intro z wz _ _ _) | ((with_reducible apply (wpl_guard (op := .load _ _))); (exact rfl)) | ((with_reducible apply (wpl_guard (op := .fieldAddr _ _ _))); (exact rfl)) | ((with_reducible apply wpl_loadrow); (exact rfl); infer_instance; infer_instance; (first | (with_reducible assumption) | (with_reducible exact H32.size _) | kernel_rfl)) | ((with_reducible apply wpl_loadcellN); (exact rfl); infer_instance; (exact rfl)) | ((with_reducible apply wpl_storerow); (exact rfl); (exact rfl); infer_instance; infer_instance; (first | (with_reducible assumption) | (with_reducible exact H32.size _) | kernel_rfl); (first | (with_reducible assumption) | (with_reducible exact H32.size _) | kernel_rfl); (first | (with_reducible exact u8s_one _) | (with_reducible assumption) | kernel_rfl); intro ws _ _) | ((with_reducible apply wpl_storecell); (exact rfl); (exact rfl); infer_instance; (exact rfl); (first | (with_reducible assumption) | omega | (focus (simp; done)) | (focus (simp; omega; done)) | decide); intro ws _ _))
      refine wp_region_N ((only zo)) (by kernel_rfl) (fun wd _ _ => ?_)
      refine' takeH (i := 0) (v := _) rfl (by kernel_rfl) (by kernel_rfl) (by kernel_rfl) (fun _ _ _ h => h) (yields_of (by rfl) (fun w' _ => ?_)) inferInstance ?_
      rotate_left
      · (first | ((with_reducible apply ev_loadrow); (exact rfl); infer_instance; infer_instance; (exact bkL_len _ _ _ _ _ _ _ _)))
      try simp only [Act.put, sA]; try simp only [sB, sC]
      refine' takeH (i := 1) (v := _) rfl (by kernel_rfl) (by kernel_rfl) (by kernel_rfl) (fun _ _ _ h => h) (yields_of (by rfl) (fun w' _ => ?_)) inferInstance ?_
      rotate_left
      · (go_simp; try with_reducible rfl)
      try simp only [Act.put, sA]; try simp only [sB, sC]
      refine goH (i := 2) (by kernel_rfl) rfl (fun K_ hK_ => ?_)
      go_simp
      refine (rrWhole_calls g d (dS6 b) wd (HRY.out.chg (stepN (w0 := wy) (w := wd)).chg (fun h => h) (fun h => h)) (by omega)).mono ?_
      rw [HW.out]
      rintro e we ⟨rfl, rfl⟩
      refine hK_.out _ _ inferInstance (fun _ => ?_)
      clear hK_ K_
      try simp only [Act.put, sA]; try simp only [sB, sC]
      refine' takeH (i := 3) (v := _) rfl (by kernel_rfl) (by kernel_rfl) (by kernel_rfl) (fun _ _ _ h => h) (yields_of (by rfl) (fun w' _ => ?_)) inferInstance ?_
      rotate_left
      · (go_simp; try with_reducible rfl)
      try simp only [Act.put, sA]; try simp only [sB, sC]
      refine' takeH (i := 4) (v := _) rfl (by kernel_rfl) (by kernel_rfl) (by kernel_rfl) (fun _ _ _ h => h) (yields_of (by rfl) (fun w' _ => ?_)) inferInstance ?_
      rotate_left
      · (go_simp; try with_reducible rfl)
      try simp only [Act.put, sA]; try simp only [sB, sC]
      refine' takeH (i := 5) (v := _) rfl (by kernel_rfl) (by kernel_rfl) (by kernel_rfl) (fun _ _ _ h => h) (yields_of (by rfl) (fun w' _ => ?_)) inferInstance ?_
      rotate_left
      · (first | ((with_reducible apply (ev_loadcell (k := 0))); (exact rfl); infer_instance; infer_instance; (exact bk_get0 _ _ _ _ _ _ _ _)))
      try simp only [Act.put, sA]; try simp only [sB, sC]
      refine' takeH (i := 6) (v := _) rfl (by kernel_rfl) (by kernel_rfl) (by kernel_rfl) (fun _ _ _ h => h) (yields_of (by rfl) (fun w' _ => ?_)) inferInstance ?_
      rotate_left
      · (go_simp; try with_reducible rfl)
      try simp only [Act.put, sA]; try simp only [sB, sC]
      try simp only [HFA.out]
      try simp only [HFB.out]
      refine' takeH (i := 7) (v := _) rfl (by kernel_rfl) (by kernel_rfl) (by kernel_rfl) (fun _ _ _ h => h) (yields_of (by rfl) (fun w' _ => ?_)) inferInstance ?_
      rotate_left
      · (go_simp; try with_reducible rfl)
      try simp only [Act.put, sA]; try simp only [sB, sC]
      refine' takeH (i := 8) (v := _) rfl (by kernel_rfl) (by kernel_rfl) (by kernel_rfl) (fun _ _ _ h => h) (yields_of (by rfl) (fun w' _ => ?_)) inferInstance ?_
      rotate_left
      · (go_simp; try with_reducible rfl)
      try simp only [Act.put, sA]; try simp only [sB, sC]
      refine takeH (i := 9) (v := undef) rfl (by kernel_rfl) (by kernel_rfl) (by kernel_rfl) (fun _ _ _ h => h) (Or.inr ⟨by rfl, rfl⟩) inferInstance ?_
      try simp only [Act.put, sA]; try simp only [sB, sC]
      refine takeH (i := 10) (v := undef) rfl (by kernel_rfl) (by kernel_rfl) (by kernel_rfl) (fun _ _ _ h => h) (Or.inr ⟨by rfl, rfl⟩) inferInstance ?_
      try simp only [Act.put, sA]; try simp only [sB, sC]
      refine takeH (i := 11) (v := undef) rfl (by kernel_rfl) (by kernel_rfl) (by kernel_rfl) (fun _ _ _ h => h) (Or.inr ⟨by rfl, rfl⟩) inferInstance ?_
      try simp only [Act.put, sA]; try simp only [sB, sC]
      try simp only [HFA.out]
      try simp only [HFB.out]
      refine' takeH (i := 12) (v := _) rfl (by kernel_rfl) (by kernel_rfl) (by kernel_rfl) (fun _ _ _ h => h) (yields_of (by rfl) (fun w' _ => ?_)) inferInstance ?_
      rotate_left
      · (go_simp; try with_reducible rfl)
      try simp only [Act.put, sA]; try simp only [sB, sC]
      refine goH (i := 13) (by kernel_rfl) rfl (fun K_ hK_ => ?_)
      rw [if_pos (by kernel_rfl)]
      refine wpr_of_list ?_
      (first | ((with_reducible apply wpl_storerow); (exact rfl); (exact rfl); infer_instance; infer_instance; (exact hsz); (exact bkL_len _ _ _ _ _ _ _ _); (exact hone); intro wf _ hbf) | ((with_reducible apply wpl_storerow); (exact rfl); (exact rfl); infer_instance; infer_instance; (first | (with_reducible assumption) | (with_reducible exact H32.size _) | kernel_rfl); (first | (with_reducible assumption) | (with_reducible exact H32.size _) | kernel_rfl); (first | (with_reducible exact u8s_one _) | (with_reducible assumption) | kernel_rfl); intro ws _ _) | ((with_reducible apply wpl_storecell); (exact rfl); (exact rfl); infer_instance; (exact rfl); (first | (with_reducible assumption) | omega | (focus (simp; done)) | (focus (simp; omega; done)) | decide); intro ws _ _) | ((with_reducible apply (wpl_storehash (t := 52))); (exact rfl); (exact rfl); infer_instance; infer_instance; (first | (with_reducible assumption) | omega | (focus (simp; done)) | (focus (simp; omega; done)) | decide); intro ws _ _) | ((with_reducible apply (wpl_storebyteH (t := 5))); (exact rfl); (exact rfl); infer_instance; (first | (with_reducible assumption) | omega); (first | (with_reducible assumption) | omega); (first | (constructor <;> omega) | exact xor_u8_in _ _); intro ws _ _) | ((with_reducible apply (wpl_storeint (t := 3))); (exact rfl); (exact rfl); infer_instance; (first | (with_reducible assumption) | omega); intro ws _ _) | ((with_reducible apply (wpl_storebyte (t := 5))); (exact rfl); (exact rfl); infer_instance; (first | (with_reducible assumption) | omega | (focus (simp; done)) | (focus (simp; omega; done)) | decide); (constructor <;> omega); intro ws _ _))
      refine wpList_nil ?_
      unfold onlyN
      refine hK_.out _ _ inferInstance (fun _ => ?_)
      clear hK_ K_
      try simp only [Act.put]
      refine' takeH (i := 14) (v := _) rfl (by kernel_rfl) (by kernel_rfl) (by kernel_rfl) (fun _ _ _ h => h) (yields_of (by rfl) (fun w' _ => ?_)) inferInstance ?_
      rotate_left
      · (go_simp; try with_reducible rfl)
      try simp only [Act.put, sA]; try simp only [sB, sC]
      refine wpAnyH_done (by kernel_rfl) ?_ _
      go_wp2_with (first | go_skip | ((with_reducible apply wpl_alloc); intro z wz _ _ _) | ((with_reducible apply wpl_box_agg); (exact rfl); intro z wz _ _ _) | ((with_reducible apply wpl_box_int); (exact rfl); intro z wz _ _ _) | ((with_reducible apply wpl_box_slice); (exact rfl); intro z wz _ _ _) | ((with_reducible apply wpl_box_str); (exact rfl); intro z wz _ _ _) | ((with_reducible apply wpl_box_bool); (exact rfl); intro z wz _ _ _) | ((with_reducible apply wpl_box_ptr); (exact rfl); intro z wz _ _ _) | ((with_reducible apply (wpl_guard (op := .load _ _))); (exact rfl)) | ((with_reducible apply (wpl_guard (op := .fieldAddr _ _ _))); (exact rfl)) | ((with_reducible apply wpl_loadrow); (exact rfl); infer_instance; infer_instance; (first | (with_reducible assumption) | (with_reducible exact H32.size _) | kernel_rfl)) | ((with_reducible apply wpl_loadcellN); (exact rfl); infer_instance; (exact rfl)) | ((with_reducible apply wpl_storerow); (exact rfl); (exact rfl); infer_instance; infer_instance; (first | (with_reducible assumption) | (with_reducible exact H32.size _) | kernel_rfl); (first | (with_reducible assumption) | (with_reducible exact H32.size _) | kernel_rfl); (first | (with_reducible exact u8s_one _) | (with_reducible assumption) | kernel_rfl); intro ws _ _) | ((with_reducible apply wpl_storecell); (exact rfl); (exact rfl); infer_instance; (exact rfl); (first | (with_reducible assumption) | omega | (focus (simp; done)) | (focus (simp; omega; done)) | decide); intro ws _ _))
      exact ret_row_ rfl rfl rfl (n := 37) (bkL_len _ _ _ _ _ _ _ _) rfl ⟨M, m, dm, rfl, HLM.out, hcapM, inferInstance, hnMw, stepN⟩
  · have hWf : W = false := by simpa using hWt
    subst hWf
    have HFA : Hid (True = True) := Lib.hid rfl
    have HFB : Hid (True = True) := Lib.hid rfl
    have hKK : K = false := by rw [HK2.out]; rfl
    subst hKK
    go_wp2_with (first | go_skip | ((with_reducible apply wpl_alloc); intro z wz _ _ _) | ((with_reducible apply wpl_box_agg); (exact rfl); intro z wz _ _ _) | ((with_reducible apply wpl_box_int); (exact rfl); intro z wz _ _ _) | ((with_reducible apply wpl_box_slice); (exact rfl); intro z wz _ _ _) | ((with_reducible apply wpl_box_str); (exact rfl); intro z wz _ _ _) | ((with_reducible apply wpl_box_bool); (exact rfl); intro z wz _ _ _) | ((with_reducible apply wpl_box_ptr); (exact rfl); intro z wz _ _ _) | ((with_reducible apply (wpl_guard (op := .load _ _))); (exact rfl)) | ((with_reducible apply (wpl_guard (op := .fieldAddr _ _ _))); (exact rfl)) | ((with_reducible apply wpl_loadrow); (exact rfl); infer_instance; infer_instance; (first | (with_reducible assumption) | (with_reducible exact H32.size _) | kernel_rfl)) | ((with_reducible apply wpl_loadcellN); (exact rfl); infer_instance; (exact rfl)) | ((with_reducible apply wpl_storerow); (exact rfl); (exact rfl); infer_instance; infer_instance; (first | (with_reducible assumption) | (with_reducible exact H32.size _) | kernel_rfl); (first | (with_reducible assumption) | (with_reducible exact H32.size _) | kernel_rfl); (first | (with_reducible exact u8s_one _) | (with_reducible assumption) | kernel_rfl); intro ws _ _) | ((with_reducible apply wpl_storecell); (exact rfl); (exact rfl); infer_instance; (exact rfl); (first | (with_reducible assumption) | omega | (focus (simp; done)) | (focus (simp; omega; done)) | decide); intro ws _ _))
    refine wp_region_N ((only zo)) (by kernel_rfl) (fun wd _ _ => ?_)
    refine' takeH (i := 0) (v := _) rfl (by kernel_rfl) (by kernel_rfl) (by kernel_rfl) (fun _ _ _ h => h) (yields_of (by rfl) (fun w' _ => ?_)) inferInstance ?_
    rotate_left
    · (first | ((with_reducible apply ev_loadrow); (exact rfl); infer_instance; infer_instance; (exact bkL_len _ _ _ _ _ _ _ _)))
    try simp only [Act.put, sA]; try simp only [sB, sC]
    refine' takeH (i := 1) (v := _) rfl (by kernel_rfl) (by kernel_rfl) (by kernel_rfl) (fun _ _ _ h => h) (yields_of (by rfl) (fun w' _ => ?_)) inferInstance ?_
    rotate_left
    · (go_simp; try with_reducible rfl)
    try simp only [Act.put, sA]; try simp only [sB, sC]
    refine goH (i := 2) (by kernel_rfl) rfl (fun K_ hK_ => ?_)
    go_simp
    refine (rrWhole_calls g d (dS6 b) wd (HRY.out.chg (stepN (w0 := wy) (w := wd)).chg (fun h => h) (fun h => h)) (by omega)).mono ?_
    rw [HW.out]
    rintro e we ⟨rfl, rfl⟩
    refine hK_.out _ _ inferInstance (fun _ => ?_)
    clear hK_ K_
    try simp only [Act.put, sA]; try simp only [sB, sC]
    refine' takeH (i := 3) (v := _) rfl (by kernel_rfl) (by kernel_rfl) (by kernel_rfl) (fun _ _ _ h => h) (yields_of (by rfl) (fun w' _ => ?_)) inferInstance ?_
    rotate_left
    · (go_simp; try with_reducible rfl)
    try simp only [Act.put, sA]; try simp only [sB, sC]
    refine takeH (i := 4) (v := undef) rfl (by kernel_rfl) (by kernel_rfl) (by kernel_rfl) (fun _ _ _ h => h) (Or.inr ⟨by rfl, rfl⟩) inferInstance ?_
    try simp only [Act.put, sA]; try simp only [sB, sC]
    refine takeH (i := 5) (v := undef) rfl (by kernel_rfl) (by kernel_rfl) (by kernel_rfl) (fun _ _ _ h => h) (Or.inr ⟨by rfl, rfl⟩) inferInstance ?_
    try simp only [Act.put, sA]; try simp only [sB, sC]
    refine takeH (i := 6) (v := undef) rfl (by kernel_rfl) (by kernel_rfl) (by kernel_rfl) (fun _ _ _ h => h) (Or.inr ⟨by rfl, rfl⟩) inferInstance ?_
    try simp only [Act.put, sA]; try simp only [sB, sC]
    try simp only [HFA.out]
    try simp only [HFB.out]
    refine' takeH (i := 7) (v := _) rfl (by kernel_rfl) (by kernel_rfl) (by kernel_rfl) (fun _ _ _ h => h) (yields_of (by rfl) (fun w' _ => ?_)) inferInstance ?_
    rotate_left
    · (go_simp; try with_reducible rfl)
    try simp only [Act.put, sA]; try simp only [sB, sC]
    refine' takeH (i := 8) (v := _) rfl (by kernel_rfl) (by kernel_rfl) (by kernel_rfl) (fun _ _ _ h => h) (yields_of (by rfl) (fun w' _ => ?_)) inferInstance ?_
    rotate_left
    · (go_simp; try with_reducible rfl)
    try simp only [Act.put, sA]; try simp only [sB, sC]
    refine takeH (i := 9) (v := undef) rfl (by kernel_rfl) (by kernel_rfl) (by kernel_rfl) (fun _ _ _ h => h) (Or.inr ⟨by rfl, rfl⟩) inferInstance ?_
    try simp only [Act.put, sA]; try simp only [sB, sC]
    refine takeH (i := 10) (v := undef) rfl (by kernel_rfl) (by kernel_rfl) (by kernel_rfl) (fun _ _ _ h => h) (Or.inr ⟨by rfl, rfl⟩) inferInstance ?_
    try simp only [Act.put, sA]; try simp only [sB, sC]
    refine takeH (i := 11) (v := undef) rfl (by kernel_rfl) (by kernel_rfl) (by kernel_rfl) (fun _ _ _ h => h) (Or.inr ⟨by rfl, rfl⟩) inferInstance ?_
    try simp only [Act.put, sA]; try simp only [sB, sC]
    try simp only [HFA.out]
    try simp only [HFB.out]
    refine' takeH (i := 12) (v := _) rfl (by kernel_rfl) (by kernel_rfl) (by kernel_rfl) (fun _ _ _ h => h) (yields_of (by rfl) (fun w' _ => ?_)) inferInstance ?_
    rotate_left
    · (go_simp; try with_reducible rfl)
    try simp only [Act.put, sA]; try simp only [sB, sC]
    refine goH (i := 13) (by kernel_rfl) rfl (fun K_ hK_ => ?_)
    rw [if_pos (by kernel_rfl)]
    refine wpr_of_list ?_
    (first | ((with_reducible apply wpl_storerow); (exact rfl); (exact rfl); infer_instance; infer_instance; (exact hsz); (exact bkL_len _ _ _ _ _ _ _ _); (exact hone); intro wf _ hbf) | ((with_reducible apply wpl_storerow); (exact rfl); (exact rfl); infer_instance; infer_instance; (first | (with_reducible assumption) | (with_reducible exact H32.size _) | kernel_rfl); (first | (with_reducible assumption) | (with_reducible exact H32.size _) | kernel_rfl); (first | (with_reducible exact u8s_one _) | (with_reducible assumption) | kernel_rfl); intro ws _ _) | ((with_reducible apply wpl_storecell); (exact rfl); (exact rfl); infer_instance; (exact rfl); (first | (with_reducible assumption) | omega | (focus (simp; done)) | (focus (simp; omega; done)) | decide); intro ws _ _) | ((with_reducible apply (wpl_storehash (t := 52))); (exact rfl); (exact rfl); infer_instance; infer_instance; (first | (with_reducible assumption) | omega | (focus (simp; done)) | (focus (simp; omega; done)) | decide); intro ws _ _) | ((with_reducible apply (wpl_storebyteH (t := 5))); (exact rfl); (exact rfl); infer_instance; (first | (with_reducible assumption) | omega); (first | (with_reducible assumption) | omega); (first | (constructor <;> omega) | exact xor_u8_in _ _); intro ws _ _) | ((with_reducible apply (wpl_storeint (t := 3))); (exact rfl); (exact rfl); infer_instance; (first | (with_reducible assumption) | omega); intro ws _ _) | ((with_reducible apply (wpl_storebyte (t := 5))); (exact rfl); (exact rfl); infer_instance; (first | (with_reducible assumption) | omega | (focus (simp; done)) | (focus (simp; omega; done)) | decide); (constructor <;> omega); intro ws _ _))
    refine wpList_nil ?_
    unfold onlyN
    refine hK_.out _ _ inferInstance (fun _ => ?_)
    clear hK_ K_
    try simp only [Act.put]
    refine' takeH (i := 14) (v := _) rfl (by kernel_rfl) (by kernel_rfl) (by kernel_rfl) (fun _ _ _ h => h) (yields_of (by rfl) (fun w' _ => ?_)) inferInstance ?_
    rotate_left
    · (go_simp; try with_reducible rfl)
    try simp only [Act.put, sA]; try simp only [sB, sC]
    refine wpAnyH_done (by kernel_rfl) ?_ _
    go_wp2_with (first | go_skip | ((with_reducible apply wpl_alloc); intro z wz _ _ _) | ((with_reducible apply wpl_box_agg); (exact rfl); intro z wz _ _ _) | ((with_reducible apply wpl_box_int); (exact rfl); intro z wz _ _ _) | ((with_reducible apply wpl_box_slice); (exact rfl); intro z wz _ _ _) | ((with_reducible apply wpl_box_str); (exact rfl); intro z wz _ _ _) | ((with_reducible apply wpl_box_bool); (exact rfl); intro z wz _ _ _) | ((with_reducible apply wpl_box_ptr); (exact rfl); intro z wz _ _ _) | ((with_reducible apply (wpl_guard (op := .load _ _))); (exact rfl)) | ((with_reducible apply (wpl_guard (op := .fieldAddr _ _ _))); (exact rfl)) | ((with_reducible apply wpl_loadrow); (exact rfl); infer_instance; infer_instance; (first | (with_reducible assumption) | (with_reducible exact H32.size _) | kernel_rfl)) | ((with_reducible apply wpl_loadcellN); (exact rfl); infer_instance; (exact rfl)) | ((with_reducible apply wpl_storerow); (exact rfl); (exact rfl); infer_instance; infer_instance; (first | (with_reducible assumption) | (with_reducible exact H32.size _) | kernel_rfl); (first | (with_reducible assumption) | (with_reducible exact H32.size _) | kernel_rfl); (first | (with_reducible exact u8s_one _) | (with_reducible assumption) | kernel_rfl); intro ws _ _) | ((with_reducible apply wpl_storecell); (exact rfl); (exact rfl); infer_instance; (exact rfl); (first | (with_reducible assumption) | omega | (focus (simp; done)) | (focus (simp; omega; done)) | decide); intro ws _ _))
    exact ret_row_ rfl rfl rfl (n := 37) (bkL_len _ _ _ _ _ _ _ _) rfl ⟨M, m, dm, rfl, HLM.out, hcapM, inferInstance, hnMw, stepN⟩
end Go.Proofs.Ytegdihpnefoolaa
