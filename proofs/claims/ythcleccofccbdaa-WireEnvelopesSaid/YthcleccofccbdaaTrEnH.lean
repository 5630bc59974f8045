/- EnH -/
import Derived.Test.YthcleccofccbdaaTrEnG
open Go Go.RowKit
namespace Go.Proofs.Ythcleccofccbdaa
theorem markKey_rd {w : World} {A : Option Addr} {L : List MarkR} {k : Nat} (hr : HR w A (cellsOf L)) (hk : k < L.length) : HR w (shift A (k * 35)) (bs (gt L k).key.l) := ⟨by
  have h1 := (hr.out.drop (k * 35)).take 32
  have h2 : ((cellsOf L).drop (k * 35)).take 32 = bs (gt L k).key.l := by
    have h3 : ((cellsOf L).drop (k * 35)).take 35 = RowC.enc (gt L k) := cellsOf_at L k hk
    have h4 : (RowC.enc (gt L k)).take 32 = bs (gt L k).key.l := mark_key (gt L k)
    rw [← h4, ← h3, List.take_take]
    rfl
  rw [h2] at h1
  exact h1⟩
set_option maxRecDepth 100000 in
set_option maxHeartbeats 3200000 in
theorem rEncodeEnv_calls {M A : Option Addr} {nb cb n c : Nat} {m : List UInt8} {L : List MarkR} {w : World} [hM : HR w M (bs m)] [hr : HR w A (cellsOf L)] (hK : ∀ x ∈ L, MarkIn w x) (hm : m.length = nb) (hl : L.length = n) (hmx : n ≤ 9223372036854775807) (hmb : nb ≤ 9223372036854775807) :
    Calls Try.prog 27 #[.agg #[.slice M nb cb, .slice A n c]] w (EncPost (envOk m (L.map MarkR.m)) (envE m (L.map MarkR.m)) w) := by
  have HRR := Lib.hid hr.out
  have HMM := Lib.hid hM.out
  have HL := Lib.hid hl
  have HNB := Lib.hid hm
  have HK := Lib.hid hK
  have HE : Hid (envE m (L.map MarkR.m) = encAll [6] ++ encRow m ++ encAll [(n : Int)] ++ marksE (L.map MarkR.m)) := Lib.hid (by rw [envE, List.length_map, hl]; simp)
  rw [HE.out]
  clear HE hK
  unfold EncPost
  cases hb : envOk m (L.map MarkR.m)
  case false =>
    go_enter Try.func27, Try.ntmps27
    go_wp2_with (first | ((with_reducible apply (wpl_box_agg (dst := some 1))); (exact rfl); intro zt wzt _ _ _) | ((with_reducible apply (wpl_box_int (dst := some 1))); (exact rfl); intro zt wzt _ _ _) | ((with_reducible apply (wpl_box_slice (dst := some 1))); (exact rfl); intro zt wzt _ _ _) | ((with_reducible apply (wpl_box_str (dst := some 1))); (exact rfl); intro zt wzt _ _ _) | ((with_reducible apply (wpl_box_bool (dst := some 1))); (exact rfl); intro zt wzt _ _ _) | ((with_reducible apply (wpl_box_ptr (dst := some 1))); (exact rfl); intro zt wzt _ _ _) | ((with_reducible apply wpl_box_agg); (exact rfl); intro z wz _ _ _) | ((with_reducible apply wpl_box_int); (exact rfl); intro z wz _ _ _) | ((with_reducible apply wpl_box_slice); (exact rfl); intro z wz _ _ _) | ((with_reducible apply wpl_box_str); (exact rfl); intro z wz _ _ _) | ((with_reducible apply wpl_box_bool); (exact rfl); intro z wz _ _ _) | ((with_reducible apply wpl_box_ptr); (exact rfl); intro z wz _ _ _) | ((with_reducible apply wpl_loadrow); (exact rfl); infer_instance; infer_instance; (first | (with_reducible assumption) | (with_reducible exact H32.size _) | (with_reducible exact enc_sz _ rfl) | kernel_rfl)) | ((with_reducible apply wpl_loadcellN); (exact rfl); infer_instance; (exact rfl)))
    refine (rIsEnv_calls (m := m) (L := L) hm hl hmx hmb).mono ?_
    rw [hb]
    rintro e w5 ⟨rfl, _⟩
    go_wp2_with (first | ((with_reducible apply wpl_box_agg); (exact rfl); intro z wz _ _ _) | ((with_reducible apply wpl_box_int); (exact rfl); intro z wz _ _ _) | ((with_reducible apply wpl_box_slice); (exact rfl); intro z wz _ _ _) | ((with_reducible apply wpl_box_str); (exact rfl); intro z wz _ _ _) | ((with_reducible apply wpl_box_bool); (exact rfl); intro z wz _ _ _) | ((with_reducible apply wpl_box_ptr); (exact rfl); intro z wz _ _ _) | ((with_reducible apply wpl_loadrow); (exact rfl); infer_instance; infer_instance; (first | (with_reducible assumption) | (with_reducible exact H32.size _) | (with_reducible exact enc_sz _ rfl) | kernel_rfl)) | ((with_reducible apply wpl_loadcellN); (exact rfl); infer_instance; (exact rfl)))
    go_ret2
    exact ⟨stepN, rfl⟩
  case true =>
    have hb2 : m.length ≤ 8192 ∧ L.length ≤ 4 ∧ L.all mkOk = true := by
      have h9 := hb
      unfold envOk at h9
      rw [List.length_map, List.all_map, show mkOkM ∘ MarkR.m = mkOk from rfl] at h9
      simp only [Bool.and_eq_true, decide_eq_true_eq] at h9
      exact ⟨h9.1.1, h9.1.2, h9.2⟩
    have HP4 : Hid (n ≤ 4) := Lib.hid (by rw [← hl]; exact hb2.2.1)
    have HP8 : Hid (nb ≤ 8192) := Lib.hid (by rw [← hm]; exact hb2.1)
    have HG : Hid (∀ x ∈ L, mkOk x = true) := Lib.hid (fun x hx => List.all_eq_true.1 hb2.2.2 x hx)
    have HR8 : Hid ((encRow m).length ≤ 8201) := Lib.hid (by have := encRow_len m (by omega); omega)
    clear hb2
    go_enter Try.func27, Try.ntmps27
    go_wp2_with (first | ((with_reducible apply (wpl_box_agg (dst := some 1))); (exact rfl); intro zt wzt _ _ _) | ((with_reducible apply (wpl_box_int (dst := some 1))); (exact rfl); intro zt wzt _ _ _) | ((with_reducible apply (wpl_box_slice (dst := some 1))); (exact rfl); intro zt wzt _ _ _) | ((with_reducible apply (wpl_box_str (dst := some 1))); (exact rfl); intro zt wzt _ _ _) | ((with_reducible apply (wpl_box_bool (dst := some 1))); (exact rfl); intro zt wzt _ _ _) | ((with_reducible apply (wpl_box_ptr (dst := some 1))); (exact rfl); intro zt wzt _ _ _) | ((with_reducible apply wpl_box_agg); (exact rfl); intro z wz _ _ _) | ((with_reducible apply wpl_box_int); (exact rfl); intro z wz _ _ _) | ((with_reducible apply wpl_box_slice); (exact rfl); intro z wz _ _ _) | ((with_reducible apply wpl_box_str); (exact rfl); intro z wz _ _ _) | ((with_reducible apply wpl_box_bool); (exact rfl); intro z wz _ _ _) | ((with_reducible apply wpl_box_ptr); (exact rfl); intro z wz _ _ _) | ((with_reducible apply wpl_loadrow); (exact rfl); infer_instance; infer_instance; (first | (with_reducible assumption) | (with_reducible exact H32.size _) | (with_reducible exact enc_sz _ rfl) | kernel_rfl)) | ((with_reducible apply wpl_loadcellN); (exact rfl); infer_instance; (exact rfl)))
    refine (rIsEnv_calls (m := m) (L := L) hm hl hmx hmb).mono ?_
    rw [hb]
    rintro e w5 ⟨rfl, _⟩
    have n5 : Nw w w5 := inferInstance
    have hs5 : w.heap.size ≤ w5.heap.size := n5.out.size
    have hl5 := (inferInstance : HB w5 zt 58 #[.slice M nb cb, .slice A n c]).out.lt
    have ht5 : HB w5 zt 58 #[.slice M nb cb, .slice A n c] := inferInstance
    go_wp2_with (first | ((with_reducible apply wpl_box_agg); (exact rfl); intro z wz _ _ _) | ((with_reducible apply wpl_box_int); (exact rfl); intro z wz _ _ _) | ((with_reducible apply wpl_box_slice); (exact rfl); intro z wz _ _ _) | ((with_reducible apply wpl_box_str); (exact rfl); intro z wz _ _ _) | ((with_reducible apply wpl_box_bool); (exact rfl); intro z wz _ _ _) | ((with_reducible apply wpl_box_ptr); (exact rfl); intro z wz _ _ _) | ((with_reducible apply wpl_loadrow); (exact rfl); infer_instance; infer_instance; (first | (with_reducible assumption) | (with_reducible exact H32.size _) | (with_reducible exact enc_sz _ rfl) | kernel_rfl)) | ((with_reducible apply wpl_loadcellN); (exact rfl); infer_instance; (exact rfl)))
    refine wp_region_N (nowhere) (by kernel_rfl) (fun wd _ _ => ?_)
    refine' takeH (i := 1) (v := _) rfl (by kernel_rfl) (by kernel_rfl) (by kernel_rfl) (fun _ _ _ h => h) (yields_of (by rfl) (fun w' _ => ?_)) inferInstance ?_
    rotate_left
    · (first | ((with_reducible apply (ev_fieldE (t := 125))); (exact Try.underlying125); (exact rfl); (kernel_rfl); (exact rfl); infer_instance; (exact cells_pos (by decide) (by omega))) | (go_simp; try with_reducible rfl))
    try simp only [Act.put, sA]; try simp only [sB, sC]
    refine' takeH (i := 2) (v := _) rfl (by kernel_rfl) (by kernel_rfl) (by kernel_rfl) (fun _ _ _ h => h) (yields_of (by rfl) (fun w' _ => ?_)) inferInstance ?_
    rotate_left
    · (first | ((with_reducible apply ev_loadrow); (exact rfl); infer_instance; infer_instance; (first | (with_reducible assumption) | (with_reducible exact H32.size _) | (with_reducible exact enc_sz _ rfl) | kernel_rfl)) | ((with_reducible apply (ev_loadhash (t := 78))); (exact rfl); infer_instance; infer_instance; (first | (with_reducible assumption) | omega)) | ((with_reducible apply ev_loadcellN); (exact rfl); infer_instance; infer_instance; (exact rfl)) | ((with_reducible apply (ev_loadE (α := MarkR) (t := 125))); infer_instance; (exact rfl); infer_instance; (exact rfl); (decide); (first | (with_reducible assumption) | omega | (focus (simp; done)) | (focus (simp; omega; done)) | decide)) | ((with_reducible apply (ev_loadF (α := MarkR))); infer_instance; (exact rfl); infer_instance; (exact rfl); (first | (with_reducible assumption) | omega | (focus (simp; done)) | (focus (simp; omega; done)) | decide); (exact rfl)) | ((with_reducible apply (ev_loadint (t := 3))); (exact rfl); infer_instance; infer_instance; (first | (with_reducible assumption) | omega)) | ((with_reducible apply (ev_loadbyte (t := 5))); (exact rfl); infer_instance; infer_instance; (first | (with_reducible assumption) | omega)) | (go_simp; try with_reducible rfl))
    try simp only [Act.put, sA]; try simp only [sB, sC]
    refine' takeH (i := 5) (v := _) rfl (by kernel_rfl) (by kernel_rfl) (by kernel_rfl) (fun _ _ _ h => h) (yields_of (by rfl) (fun w' _ => ?_)) inferInstance ?_
    rotate_left
    · (first | ((with_reducible apply (ev_fieldE (t := 125))); (exact Try.underlying125); (exact rfl); (kernel_rfl); (exact rfl); infer_instance; (exact cells_pos (by decide) (by omega))) | (go_simp; try with_reducible rfl))
    try simp only [Act.put, sA]; try simp only [sB, sC]
    refine' takeH (i := 6) (v := _) rfl (by kernel_rfl) (by kernel_rfl) (by kernel_rfl) (fun _ _ _ h => h) (yields_of (by rfl) (fun w' _ => ?_)) inferInstance ?_
    rotate_left
    · (first | ((with_reducible apply ev_loadrow); (exact rfl); infer_instance; infer_instance; (first | (with_reducible assumption) | (with_reducible exact H32.size _) | (with_reducible exact enc_sz _ rfl) | kernel_rfl)) | ((with_reducible apply (ev_loadhash (t := 78))); (exact rfl); infer_instance; infer_instance; (first | (with_reducible assumption) | omega)) | ((with_reducible apply ev_loadcellN); (exact rfl); infer_instance; infer_instance; (exact rfl)) | ((with_reducible apply (ev_loadE (α := MarkR) (t := 125))); infer_instance; (exact rfl); infer_instance; (exact rfl); (decide); (first | (with_reducible assumption) | omega | (focus (simp; done)) | (focus (simp; omega; done)) | decide)) | ((with_reducible apply (ev_loadF (α := MarkR))); infer_instance; (exact rfl); infer_instance; (exact rfl); (first | (with_reducible assumption) | omega | (focus (simp; done)) | (focus (simp; omega; done)) | decide); (exact rfl)) | ((with_reducible apply (ev_loadint (t := 3))); (exact rfl); infer_instance; infer_instance; (first | (with_reducible assumption) | omega)) | ((with_reducible apply (ev_loadbyte (t := 5))); (exact rfl); infer_instance; infer_instance; (first | (with_reducible assumption) | omega)) | (go_simp; try with_reducible rfl))
    try simp only [Act.put, sA]; try simp only [sB, sC]
    refine' takeH (i := 7) (v := _) rfl (by kernel_rfl) (by kernel_rfl) (by kernel_rfl) (fun _ _ _ h => h) (yields_of (by rfl) (fun w' _ => ?_)) inferInstance ?_
    rotate_left
    · (go_simp; try with_reducible rfl)
    try simp only [Act.put, sA]; try simp only [sB, sC]
    refine goH (i := 0) (by kernel_rfl) rfl (fun K_ hK_ => ?_)
    go_simp
    refine (refNum_calls 6 _).mono ?_
    rintro e w7 ⟨A7, n7, c7, rfl, hF⟩
    have st7 : Step nowhere _ w7 := ⟨hF.out.chg⟩
    have ho7 : HO w7 5 1 A7 n7 c7 (bs (encAll [6])) := ⟨by rw [encAll_one]; exact hF.out.own⟩
    have hA7 : NewA wd A7 := ⟨fun ad e => hF.out.new ad e⟩
    have hB7 : NewA w5 A7 := ⟨fun ad e => Nat.le_trans (stepN (w0 := w5)).chg.size (hF.out.new ad e)⟩
    have hl7 : (encAll [6]).length = n7 := by rw [encAll_one]; exact hF.out.len.symm
    have hn7 : n7 ≤ 9 := by have := encAll_len [6]; simp only [List.length_cons, List.length_nil] at this; omega
    clear hF
    refine hK_.out _ _ inferInstance (fun _ => ?_)
    clear hK_ K_
    try simp only [Act.put, sA]; try simp only [sB, sC]
    refine goH (i := 3) (by kernel_rfl) rfl (fun K_ hK_ => ?_)
    go_simp
    refine (refBytes_calls M nb cb m _ (HMM.out.later (stepN (w0 := w)).chg) HNB.out (by have := HP8.out; omega)).mono ?_
    rintro e w8 ⟨A8, n8, c8, rfl, hF⟩
    have st8 : Step nowhere _ w8 := ⟨hF.out.chg⟩
    have hr8 : HR w8 A8 (bs (encRow m)) := ⟨hF.out.own.rd⟩
    have hl8 : (encRow m).length = n8 := hF.out.len.symm
    have hn8 : n8 ≤ 8201 := by have := HR8.out; omega
    clear hF
    refine hK_.out _ _ inferInstance (fun _ => ?_)
    clear hK_ K_
    try simp only [Act.put, sA]; try simp only [sB, sC]
    refine goH (i := 4) (by kernel_rfl) rfl (fun K_ hK_ => ?_)
    rw [if_pos (by kernel_rfl)]
    refine wpr_of_list ?_
    (first | ((with_reducible apply wpl_appendB); (exact rfl); (exact rfl); infer_instance; (first | exact inferInstance | exact ⟨Own.nil _ _ _⟩); infer_instance; (first | (with_reducible assumption) | (with_reducible exact H32.len _) | (focus (simp; done)) | omega); (first | (with_reducible assumption) | omega); intro A' c' wa _ _ _ hcap) | ((with_reducible apply wpl_appendH); (exact rfl); (exact rfl); infer_instance; (first | exact inferInstance | exact ⟨Own.nil _ _ _⟩); infer_instance; (first | (with_reducible assumption) | omega); intro A' c' wa _ _ _ hcap) | ((with_reducible apply (wpl_appendR (α := MarkR))); (exact rfl); (exact rfl); infer_instance; (first | exact inferInstance | exact ⟨Own.nil _ _ _⟩); infer_instance; (exact rfl); (first | (with_reducible assumption) | (with_reducible exact H32.len _) | (focus (simp; done)) | omega); (first | (with_reducible assumption) | omega); (decide); (decide); intro A' c' wa _ _ _ hcap))
    refine wpList_nil ?_
    unfold onlyN
    refine hK_.out _ _ inferInstance (fun _ => ?_)
    clear hK_ K_
    try simp only [Act.put, sA]; try simp only [sB, sC]
    refine goH (i := 8) (by kernel_rfl) rfl (fun K_ hK_ => ?_)
    go_simp
    refine (refNum_calls (n : Int) _).mono ?_
    rintro e w9 ⟨A9, n9, c9, rfl, hF⟩
    have st9 : Step nowhere _ w9 := ⟨hF.out.chg⟩
    have hr9 : HR w9 A9 (bs (encAll [(n : Int)])) := ⟨by rw [encAll_one]; exact hF.out.own.rd⟩
    have hl9 : (encAll [(n : Int)]).length = n9 := by rw [encAll_one]; exact hF.out.len.symm
    have hn9 : n9 ≤ 9 := by have := encAll_len [(n : Int)]; simp only [List.length_cons, List.length_nil] at this; omega
    clear hF
    refine hK_.out _ _ inferInstance (fun _ => ?_)
    clear hK_ K_
    try simp only [Act.put, sA]; try simp only [sB, sC]
    refine goH (i := 9) (by kernel_rfl) rfl (fun K_ hK_ => ?_)
    rw [if_pos (by kernel_rfl)]
    refine wpr_of_list ?_
    (first | ((with_reducible apply wpl_appendB); (exact rfl); (exact rfl); infer_instance; (first | exact inferInstance | exact ⟨Own.nil _ _ _⟩); infer_instance; (first | (with_reducible assumption) | (with_reducible exact H32.len _) | (focus (simp; done)) | omega); (first | (with_reducible assumption) | omega); intro A' c' wa _ _ _ hcap) | ((with_reducible apply wpl_appendH); (exact rfl); (exact rfl); infer_instance; (first | exact inferInstance | exact ⟨Own.nil _ _ _⟩); infer_instance; (first | (with_reducible assumption) | omega); intro A' c' wa _ _ _ hcap) | ((with_reducible apply (wpl_appendR (α := MarkR))); (exact rfl); (exact rfl); infer_instance; (first | exact inferInstance | exact ⟨Own.nil _ _ _⟩); infer_instance; (exact rfl); (first | (with_reducible assumption) | (with_reducible exact H32.len _) | (focus (simp; done)) | omega); (first | (with_reducible assumption) | omega); (decide); (decide); intro A' c' wa _ _ _ hcap))
    refine wpList_nil ?_
    unfold onlyN
    refine hK_.out _ _ inferInstance (fun _ => ?_)
    clear hK_ K_
    try simp only [Act.put, sA]; try simp only [sB, sC]
    refine' takeH (i := 10) (v := _) rfl (by kernel_rfl) (by kernel_rfl) (by kernel_rfl) (fun _ _ _ h => h) (yields_of (by rfl) (fun w' _ => ?_)) inferInstance ?_
    rotate_left
    · (go_simp; try with_reducible rfl)
    try simp only [Act.put, sA]; try simp only [sB, sC]
    refine wpAnyH_done (by kernel_rfl) ?_ _
    have hoA : HO wa 5 1 A' (n7 + n8 + n9) c' (bs (encAll [6] ++ encRow m ++ encAll [(n : Int)] ++ marksE ((L.take 0).map MarkR.m))) := by
      have h1 : HO wa 5 1 A' (n7 + n8 + n9) c' (bs (encAll [6] ++ encRow m ++ encAll [(n : Int)])) := inferInstance
      simpa [marksE] using h1
    have hnA : NewA w5 A' := inferInstance
    have hnW : NewA w A' := ⟨fun ad e => Nat.le_trans hs5 (hnA.out ad e)⟩
    have os : OffB (rowOf A') zt := ⟨fun ⟨ad, e, hk⟩ => by
      have h1 := hnA.out ad e
      omega⟩
    have htA : HB wa zt 58 #[.slice M nb cb, .slice A n c] := inferInstance
    have stA0 : Step nowhere w wa := stepN
    obtain ⟨H0, hH0⟩ : ∃ H0, H0 = encAll [6] ++ encRow m ++ encAll [(n : Int)] := ⟨_, rfl⟩
    have hlen : n7 + n8 + n9 = (H0 ++ marksE ((L.take 0).map MarkR.m)).length := by
      rw [hH0, List.take_zero, List.map_nil, marksE, List.flatMap_nil, List.append_nil, List.length_append, List.length_append, hl7, hl8, hl9]
    have HN0 := Lib.hid hlen
    have hn0 : n7 + n8 + n9 ≤ 8300 := by omega
    rw [← hH0] at hoA
    have HH0 := Lib.hid hH0
    generalize n7 + n8 + n9 = nA at *
    clear ho7 hA7 hB7 hl7 hn7 st7 hr8 hl8 hn8 st8 hr9 hl9 hn9 st9 hlen hnA hH0
    have stA : Step nowhere w wa := stA0
    clear stA0
    go_wp2_with (first | ((with_reducible apply wpl_box_agg); (exact rfl); intro z wz _ _ _) | ((with_reducible apply wpl_box_int); (exact rfl); intro z wz _ _ _) | ((with_reducible apply wpl_box_slice); (exact rfl); intro z wz _ _ _) | ((with_reducible apply wpl_box_str); (exact rfl); intro z wz _ _ _) | ((with_reducible apply wpl_box_bool); (exact rfl); intro z wz _ _ _) | ((with_reducible apply wpl_box_ptr); (exact rfl); intro z wz _ _ _) | ((with_reducible apply wpl_loadrow); (exact rfl); infer_instance; infer_instance; (first | (with_reducible assumption) | (with_reducible exact H32.size _) | (with_reducible exact enc_sz _ rfl) | kernel_rfl)) | ((with_reducible apply wpl_loadcellN); (exact rfl); infer_instance; (exact rfl)))
    go_loopw [4, 5] (fun bv iv wr => ∃ (k : Nat) (A1 : Option Addr) (n1 c1 : Nat), k ≤ n ∧ iv = .int .i64 (k : Int) ∧ bv = .slice A1 n1 c1 ∧ Step nowhere w wr ∧ HO wr 5 1 A1 n1 c1 (bs (H0 ++ marksE ((L.take k).map MarkR.m))) ∧ NewA w A1 ∧ OffB (rowOf A1) zt ∧ n1 ≤ 8300 + 1400 * k ∧ Hid (n1 = (H0 ++ marksE ((L.take k).map MarkR.m)).length) ∧ HB wr zt 58 #[.slice M nb cb, .slice A n c]) (fun _ iv _ => n - (intOf iv).toNat)
    case atStart => exact ⟨0, A', nA, c', Nat.zero_le _, rfl, rfl, stA, hoA, hnW, os, by omega, HN0, htA⟩
    case round =>
      clear hoA hnW os hn0 htA HN0 stA hl5 ht5 n5
      obtain ⟨k, A1, n1, c1, hk, rfl, rfl, _, hO, hA1, os, hn1, HN1, ht⟩ := hrel
      have st : Step nowhere w wr := inferInstance
      have nr : Nw w wr := ⟨st.chg⟩
      have hrw : HR wr A (cellsOf L) := ⟨HRR.out.later st.chg⟩
      have hl : L.length = n := HL.out
      have h4 := HP4.out
      by_cases hlt : k < n
      · have hltI : (k : Int) < n := by omega
        have hkl : k < L.length := by omega
        have hsg := mark_sig (gt L k)
        have hmem := gt_mem L k hkl
        have hki : MarkIn wr (gt L k) := (HK.out _ hmem).chg st.chg (fun _ _ h => h)
        have hrA : HR wr (gt L k).A (cellsOf (gt L k).l) := ⟨hki.1⟩
        have hrB : HR wr (gt L k).B (cellsOf (gt L k).p) := ⟨hki.2⟩
        have hok : isS (gt L k).leaf (gt L k).l.length (gt L k).p.length = true := HG.out _ hmem
        have HOK := Lib.hid hok
        have hml := mkME_len (gt L k) hok
        have HML : Hid (32 + (encRow (sigB (gt L k).leaf (gt L k).l (gt L k).p)).length ≤ 1400) := Lib.hid (by
          have h9 := hml
          rw [show mkME (gt L k).m = (gt L k).key.l ++ encRow (sigB (gt L k).leaf (gt L k).l (gt L k).p) from rfl, List.length_append, H32.len] at h9
          exact h9)
        have HSL : Hid ((sigB (gt L k).leaf (gt L k).l (gt L k).p).length ≤ 1400) := Lib.hid (by
          have h9 := HML.out
          rw [encRow, List.length_append] at h9
          omega)
        have HTK : Hid (H0 ++ marksE ((L.take k).map MarkR.m) ++ (gt L k).key.l ++ encRow (sigB (gt L k).leaf (gt L k).l (gt L k).p) = H0 ++ marksE ((L.take (k + 1)).map MarkR.m)) := Lib.hid (by
          rw [marksE_take L k hkl, show mkME (gt L k).m = (gt L k).key.l ++ encRow (sigB (gt L k).leaf (gt L k).l (gt L k).p) from rfl]
          simp)
        clear hok hml hki hmem
        go_wp2_with (first | ((with_reducible apply (wpl_loadEP (α := MarkR) (k := k) (j := 32) (s := 35))); infer_instance; (exact rfl); infer_instance; (exact rfl); (decide); (exact hkl); (exact hsg); (exact rfl)) | ((with_reducible apply wpl_box_agg); (exact rfl); intro z wz _ _ _) | ((with_reducible apply wpl_box_int); (exact rfl); intro z wz _ _ _) | ((with_reducible apply wpl_box_slice); (exact rfl); intro z wz _ _ _) | ((with_reducible apply wpl_box_str); (exact rfl); intro z wz _ _ _) | ((with_reducible apply wpl_box_bool); (exact rfl); intro z wz _ _ _) | ((with_reducible apply wpl_box_ptr); (exact rfl); intro z wz _ _ _) | ((with_reducible apply wpl_loadrow); (exact rfl); infer_instance; infer_instance; (first | (with_reducible assumption) | (with_reducible exact H32.size _) | (with_reducible exact enc_sz _ rfl) | kernel_rfl)) | ((with_reducible apply wpl_loadcellN); (exact rfl); infer_instance; (exact rfl)) | ((with_reducible apply wpl_sl_lh); (exact rfl); (exact rfl); (exact rfl); infer_instance; (first | (with_reducible assumption) | omega); (first | (with_reducible assumption) | omega)) | ((with_reducible apply wpl_sl_h); (exact rfl); (exact rfl); infer_instance; (first | (with_reducible assumption) | omega)) | ((with_reducible apply wpl_sl_l); (exact rfl); (exact rfl); infer_instance; (first | (with_reducible assumption) | omega)) | ((with_reducible apply wpl_indexH); (exact rfl); (exact rfl); infer_instance; infer_instance; (first | (with_reducible assumption) | omega); (first | (with_reducible assumption) | omega); (first | (with_reducible assumption) | omega)) | ((with_reducible apply wpl_indexH'); (exact rfl); (exact rfl); infer_instance; infer_instance; (first | (with_reducible assumption) | omega); (first | (with_reducible assumption) | omega); (first | (with_reducible assumption) | omega)) | ((with_reducible apply (wpl_loadhash (t := 78))); (exact rfl); infer_instance; infer_instance; (first | (with_reducible assumption) | omega)) | ((with_reducible apply wpl_sliceH); (exact rfl); (exact Try.underlying78); (kernel_rfl); infer_instance; (first | (with_reducible assumption) | omega)) | ((with_reducible apply wpl_appendB); (exact rfl); (exact rfl); infer_instance; (first | exact inferInstance | exact ⟨Own.nil _ _ _⟩); infer_instance; (first | (with_reducible assumption) | (with_reducible exact H32.len _) | (focus (simp; done)) | omega); (first | (with_reducible assumption) | omega); intro A' c' wa _ _ _ hcap) | ((with_reducible apply wpl_appendH); (exact rfl); (exact rfl); infer_instance; (first | exact inferInstance | exact ⟨Own.nil _ _ _⟩); infer_instance; (first | (with_reducible assumption) | omega); intro A' c' wa _ _ _ hcap) | ((with_reducible apply (wpl_appendR (α := MarkR))); (exact rfl); (exact rfl); infer_instance; (first | exact inferInstance | exact ⟨Own.nil _ _ _⟩); infer_instance; (exact rfl); (first | (with_reducible assumption) | (with_reducible exact H32.len _) | (focus (simp; done)) | omega); (first | (with_reducible assumption) | omega); (decide); (decide); intro A' c' wa _ _ _ hcap) | ((with_reducible apply (wpl_loadbyteH (t := 5))); (exact rfl); infer_instance; (first | (with_reducible assumption) | omega); (first | (with_reducible assumption) | omega)) | ((with_reducible apply (wpl_indexE (α := MarkR) (t := 56))); (exact rfl); (exact rfl); infer_instance; infer_instance; (first | (with_reducible assumption) | omega | (focus (simp; done)) | (focus (simp; omega; done)) | decide); (exact rfl); (decide); (first | (with_reducible assumption) | omega | (focus (simp; done)) | (focus (simp; omega; done)) | decide)) | ((with_reducible apply (wpl_indexE0 (α := MarkR) (t := 56))); (exact rfl); infer_instance; infer_instance; (first | (with_reducible assumption) | omega | (focus (simp; done)) | (focus (simp; omega; done)) | decide); (exact rfl); (decide); (first | (with_reducible assumption) | omega | (focus (simp; done)) | (focus (simp; omega; done)) | decide)) | ((with_reducible apply (wpl_loadE (α := MarkR) (t := 125))); infer_instance; (exact rfl); infer_instance; (exact rfl); (decide); (first | (with_reducible assumption) | omega | (focus (simp; done)) | (focus (simp; omega; done)) | decide)) | ((with_reducible apply (wpl_fieldE (t := 125))); (exact Try.underlying125); (exact rfl); (kernel_rfl); (exact rfl); infer_instance; (exact cells_pos (by decide) (by omega))) | ((with_reducible apply (wpl_loadF (α := MarkR))); infer_instance; (exact rfl); infer_instance; (exact rfl); (first | (with_reducible assumption) | omega | (focus (simp; done)) | (focus (simp; omega; done)) | decide); (exact rfl)) | ((with_reducible apply (wpl_loadint (t := 3))); (exact rfl); infer_instance; infer_instance; (first | (with_reducible assumption) | omega)) | ((with_reducible apply (wpl_loadbyte (t := 5))); (exact rfl); infer_instance; infer_instance; (first | (with_reducible assumption) | omega)))
        refine (rkencode_calls (l := (gt L k).l) (p := (gt L k).p) rfl rfl).mono ?_
        rw [HOK.out]
        unfold KEncPost
        rintro e w7 ⟨st7, A7, n7, c7, rfl, hn7, hO7, hA7⟩
        have HN7 := Lib.hid hn7
        have HR7 := Lib.hid hO7.out.rd
        have hkr : HR w7 (shift A (k * 35)) (bs (gt L k).key.l) := markKey_rd inferInstance hkl
        have hl32 : (gt L k).key.l.length = 32 := (gt L k).key.len
        have hr7 : HR w7 A7 (bs (sigB (gt L k).leaf (gt L k).l (gt L k).p)) := ⟨HR7.out⟩
        have oa7 : OffA (rowOf A1) A7 := ⟨fun ad e ⟨ad2, e2, h⟩ => by
          have h1 := hO.out.lt e2
          have h2 := hA7.out ad e
          omega⟩
        have hn7b : n7 ≤ 1400 := by have h9 := HN7.out; have := HSL.out; omega
        clear hn7 hO7
        go_wp2_with (first | ((with_reducible apply wpl_slicehash); (exact rfl); (exact Try.underlying78); (exact rfl); (exact (inferInstance : HR w7 A (cellsOf L))); (rw [cellsOf_len]; show 0 < L.length * 35; omega)) | ((with_reducible apply wpl_appendB); (exact rfl); (exact rfl); infer_instance; infer_instance; (exact hkr); (exact hl32); omega; intro A' c' wa _ _ _ hcap) | ((with_reducible apply wpl_box_agg); (exact rfl); intro z wz _ _ _) | ((with_reducible apply wpl_box_int); (exact rfl); intro z wz _ _ _) | ((with_reducible apply wpl_box_slice); (exact rfl); intro z wz _ _ _) | ((with_reducible apply wpl_box_str); (exact rfl); intro z wz _ _ _) | ((with_reducible apply wpl_box_bool); (exact rfl); intro z wz _ _ _) | ((with_reducible apply wpl_box_ptr); (exact rfl); intro z wz _ _ _) | ((with_reducible apply wpl_loadrow); (exact rfl); infer_instance; infer_instance; (first | (with_reducible assumption) | (with_reducible exact H32.size _) | (with_reducible exact enc_sz _ rfl) | kernel_rfl)) | ((with_reducible apply wpl_loadcellN); (exact rfl); infer_instance; (exact rfl)) | ((with_reducible apply wpl_sl_lh); (exact rfl); (exact rfl); (exact rfl); infer_instance; (first | (with_reducible assumption) | omega); (first | (with_reducible assumption) | omega)) | ((with_reducible apply wpl_sl_h); (exact rfl); (exact rfl); infer_instance; (first | (with_reducible assumption) | omega)) | ((with_reducible apply wpl_sl_l); (exact rfl); (exact rfl); infer_instance; (first | (with_reducible assumption) | omega)) | ((with_reducible apply wpl_indexH); (exact rfl); (exact rfl); infer_instance; infer_instance; (first | (with_reducible assumption) | omega); (first | (with_reducible assumption) | omega); (first | (with_reducible assumption) | omega)) | ((with_reducible apply wpl_indexH'); (exact rfl); (exact rfl); infer_instance; infer_instance; (first | (with_reducible assumption) | omega); (first | (with_reducible assumption) | omega); (first | (with_reducible assumption) | omega)) | ((with_reducible apply (wpl_loadhash (t := 78))); (exact rfl); infer_instance; infer_instance; (first | (with_reducible assumption) | omega)) | ((with_reducible apply wpl_sliceH); (exact rfl); (exact Try.underlying78); (kernel_rfl); infer_instance; (first | (with_reducible assumption) | omega)) | ((with_reducible apply wpl_appendB); (exact rfl); (exact rfl); infer_instance; (first | exact inferInstance | exact ⟨Own.nil _ _ _⟩); infer_instance; (first | (with_reducible assumption) | (with_reducible exact H32.len _) | (focus (simp; done)) | omega); (first | (with_reducible assumption) | omega); intro A' c' wa _ _ _ hcap) | ((with_reducible apply wpl_appendH); (exact rfl); (exact rfl); infer_instance; (first | exact inferInstance | exact ⟨Own.nil _ _ _⟩); infer_instance; (first | (with_reducible assumption) | omega); intro A' c' wa _ _ _ hcap) | ((with_reducible apply (wpl_appendR (α := MarkR))); (exact rfl); (exact rfl); infer_instance; (first | exact inferInstance | exact ⟨Own.nil _ _ _⟩); infer_instance; (exact rfl); (first | (with_reducible assumption) | (with_reducible exact H32.len _) | (focus (simp; done)) | omega); (first | (with_reducible assumption) | omega); (decide); (decide); intro A' c' wa _ _ _ hcap) | ((with_reducible apply (wpl_loadbyteH (t := 5))); (exact rfl); infer_instance; (first | (with_reducible assumption) | omega); (first | (with_reducible assumption) | omega)) | ((with_reducible apply (wpl_indexE (α := MarkR) (t := 56))); (exact rfl); (exact rfl); infer_instance; infer_instance; (first | (with_reducible assumption) | omega | (focus (simp; done)) | (focus (simp; omega; done)) | decide); (exact rfl); (decide); (first | (with_reducible assumption) | omega | (focus (simp; done)) | (focus (simp; omega; done)) | decide)) | ((with_reducible apply (wpl_indexE0 (α := MarkR) (t := 56))); (exact rfl); infer_instance; infer_instance; (first | (with_reducible assumption) | omega | (focus (simp; done)) | (focus (simp; omega; done)) | decide); (exact rfl); (decide); (first | (with_reducible assumption) | omega | (focus (simp; done)) | (focus (simp; omega; done)) | decide)) | ((with_reducible apply (wpl_loadE (α := MarkR) (t := 125))); infer_instance; (exact rfl); infer_instance; (exact rfl); (decide); (first | (with_reducible assumption) | omega | (focus (simp; done)) | (focus (simp; omega; done)) | decide)) | ((with_reducible apply (wpl_fieldE (t := 125))); (exact Try.underlying125); (exact rfl); (kernel_rfl); (exact rfl); infer_instance; (exact cells_pos (by decide) (by omega))) | ((with_reducible apply (wpl_loadF (α := MarkR))); infer_instance; (exact rfl); infer_instance; (exact rfl); (first | (with_reducible assumption) | omega | (focus (simp; done)) | (focus (simp; omega; done)) | decide); (exact rfl)) | ((with_reducible apply (wpl_loadint (t := 3))); (exact rfl); infer_instance; infer_instance; (first | (with_reducible assumption) | omega)) | ((with_reducible apply (wpl_loadbyte (t := 5))); (exact rfl); infer_instance; infer_instance; (first | (with_reducible assumption) | omega)))
        have hr7a : HR wa A7 (bs (sigB (gt L k).leaf (gt L k).l (gt L k).p)) := inferInstance
        refine (refBytes_calls A7 n7 c7 _ wa hr7a.out HN7.out.symm (by omega)).mono ?_
        rintro e w8 ⟨A8, n8, c8, rfl, hF⟩
        have st8 : Step nowhere _ w8 := ⟨hF.out.chg⟩
        have hr8 : HR w8 A8 (bs (encRow (sigB (gt L k).leaf (gt L k).l (gt L k).p))) := ⟨hF.out.own.rd⟩
        have hl8 : (encRow (sigB (gt L k).leaf (gt L k).l (gt L k).p)).length = n8 := hF.out.len.symm
        have HN8 := Lib.hid hl8
        have hn8 : n8 ≤ 1368 := by have := HML.out; omega
        clear hF
        go_wp2_with (first | ((with_reducible apply wpl_box_agg); (exact rfl); intro z wz _ _ _) | ((with_reducible apply wpl_box_int); (exact rfl); intro z wz _ _ _) | ((with_reducible apply wpl_box_slice); (exact rfl); intro z wz _ _ _) | ((with_reducible apply wpl_box_str); (exact rfl); intro z wz _ _ _) | ((with_reducible apply wpl_box_bool); (exact rfl); intro z wz _ _ _) | ((with_reducible apply wpl_box_ptr); (exact rfl); intro z wz _ _ _) | ((with_reducible apply wpl_loadrow); (exact rfl); infer_instance; infer_instance; (first | (with_reducible assumption) | (with_reducible exact H32.size _) | (with_reducible exact enc_sz _ rfl) | kernel_rfl)) | ((with_reducible apply wpl_loadcellN); (exact rfl); infer_instance; (exact rfl)) | ((with_reducible apply wpl_sl_lh); (exact rfl); (exact rfl); (exact rfl); infer_instance; (first | (with_reducible assumption) | omega); (first | (with_reducible assumption) | omega)) | ((with_reducible apply wpl_sl_h); (exact rfl); (exact rfl); infer_instance; (first | (with_reducible assumption) | omega)) | ((with_reducible apply wpl_sl_l); (exact rfl); (exact rfl); infer_instance; (first | (with_reducible assumption) | omega)) | ((with_reducible apply wpl_indexH); (exact rfl); (exact rfl); infer_instance; infer_instance; (first | (with_reducible assumption) | omega); (first | (with_reducible assumption) | omega); (first | (with_reducible assumption) | omega)) | ((with_reducible apply wpl_indexH'); (exact rfl); (exact rfl); infer_instance; infer_instance; (first | (with_reducible assumption) | omega); (first | (with_reducible assumption) | omega); (first | (with_reducible assumption) | omega)) | ((with_reducible apply (wpl_loadhash (t := 78))); (exact rfl); infer_instance; infer_instance; (first | (with_reducible assumption) | omega)) | ((with_reducible apply wpl_sliceH); (exact rfl); (exact Try.underlying78); (kernel_rfl); infer_instance; (first | (with_reducible assumption) | omega)) | ((with_reducible apply wpl_appendB); (exact rfl); (exact rfl); infer_instance; (first | exact inferInstance | exact ⟨Own.nil _ _ _⟩); infer_instance; (first | (with_reducible assumption) | (with_reducible exact H32.len _) | (focus (simp; done)) | omega); (first | (with_reducible assumption) | omega); intro A' c' wa _ _ _ hcap) | ((with_reducible apply wpl_appendH); (exact rfl); (exact rfl); infer_instance; (first | exact inferInstance | exact ⟨Own.nil _ _ _⟩); infer_instance; (first | (with_reducible assumption) | omega); intro A' c' wa _ _ _ hcap) | ((with_reducible apply (wpl_appendR (α := MarkR))); (exact rfl); (exact rfl); infer_instance; (first | exact inferInstance | exact ⟨Own.nil _ _ _⟩); infer_instance; (exact rfl); (first | (with_reducible assumption) | (with_reducible exact H32.len _) | (focus (simp; done)) | omega); (first | (with_reducible assumption) | omega); (decide); (decide); intro A' c' wa _ _ _ hcap) | ((with_reducible apply (wpl_loadbyteH (t := 5))); (exact rfl); infer_instance; (first | (with_reducible assumption) | omega); (first | (with_reducible assumption) | omega)) | ((with_reducible apply (wpl_indexE (α := MarkR) (t := 56))); (exact rfl); (exact rfl); infer_instance; infer_instance; (first | (with_reducible assumption) | omega | (focus (simp; done)) | (focus (simp; omega; done)) | decide); (exact rfl); (decide); (first | (with_reducible assumption) | omega | (focus (simp; done)) | (focus (simp; omega; done)) | decide)) | ((with_reducible apply (wpl_indexE0 (α := MarkR) (t := 56))); (exact rfl); infer_instance; infer_instance; (first | (with_reducible assumption) | omega | (focus (simp; done)) | (focus (simp; omega; done)) | decide); (exact rfl); (decide); (first | (with_reducible assumption) | omega | (focus (simp; done)) | (focus (simp; omega; done)) | decide)) | ((with_reducible apply (wpl_loadE (α := MarkR) (t := 125))); infer_instance; (exact rfl); infer_instance; (exact rfl); (decide); (first | (with_reducible assumption) | omega | (focus (simp; done)) | (focus (simp; omega; done)) | decide)) | ((with_reducible apply (wpl_fieldE (t := 125))); (exact Try.underlying125); (exact rfl); (kernel_rfl); (exact rfl); infer_instance; (exact cells_pos (by decide) (by omega))) | ((with_reducible apply (wpl_loadF (α := MarkR))); infer_instance; (exact rfl); infer_instance; (exact rfl); (first | (with_reducible assumption) | omega | (focus (simp; done)) | (focus (simp; omega; done)) | decide); (exact rfl)) | ((with_reducible apply (wpl_loadint (t := 3))); (exact rfl); infer_instance; infer_instance; (first | (with_reducible assumption) | omega)) | ((with_reducible apply (wpl_loadbyte (t := 5))); (exact rfl); infer_instance; infer_instance; (first | (with_reducible assumption) | omega)))
        refine ⟨⟨k + 1, A', n1 + 32 + n8, c', by omega, by go_num, rfl, stepN, ?_, inferInstance, inferInstance, by omega, Lib.hid ?_, inferInstance⟩, by simp [intOf]; omega⟩
        · rw [← HTK.out]
          infer_instance
        · rw [← HTK.out, List.length_append, List.length_append, ← HN1.out, HN8.out, H32.len]
      · have hltI : ¬ (k : Int) < n := by omega
        have hkn : k = n := by omega
        have hfin : L.take k = L := List.take_of_length_le (by omega)
        rw [hfin, HH0.out] at hO HN1
        rw [List.append_assoc, List.append_assoc] at hO
        clear hkn hfin
        go_wp2_with (first | ((with_reducible apply wpl_box_agg); (exact rfl); intro z wz _ _ _) | ((with_reducible apply wpl_box_int); (exact rfl); intro z wz _ _ _) | ((with_reducible apply wpl_box_slice); (exact rfl); intro z wz _ _ _) | ((with_reducible apply wpl_box_str); (exact rfl); intro z wz _ _ _) | ((with_reducible apply wpl_box_bool); (exact rfl); intro z wz _ _ _) | ((with_reducible apply wpl_box_ptr); (exact rfl); intro z wz _ _ _) | ((with_reducible apply wpl_loadrow); (exact rfl); infer_instance; infer_instance; (first | (with_reducible assumption) | (with_reducible exact H32.size _) | (with_reducible exact enc_sz _ rfl) | kernel_rfl)) | ((with_reducible apply wpl_loadcellN); (exact rfl); infer_instance; (exact rfl)))
        go_ret2
        exact ⟨stepN, A1, n1, c1, rfl, by have h9 := HN1.out; simpa using h9, hO, hA1⟩
end Go.Proofs.Ythcleccofccbdaa
