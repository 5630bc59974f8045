/- SnF -/
import Derived.Test.YtgjnjhhhbkidbaaGreatUcSnE
open Go Go.RowKit
namespace Go.Proofs.YtgjnjhhhbkidbaaGreat
theorem freshS_ho {w0 w : World} {A : Option Addr} {n c : Nat} {xs : List UInt8} (h : Fresh w0 w A n c xs) : HO w 5 1 A n c (bs xs) := ⟨h.own⟩
set_option maxRecDepth 100000 in
set_option maxHeartbeats 3200000 in
theorem rEncodeSnap_calls (v e0 : Int) {A : Option Addr} {n c : Nat} {P : List PinR} {w : World} [hr : HR w A (cellsOf P)] (hl : P.length = n) (hmax : n ≤ 1000000000) (hnm : ∀ p ∈ P, p.l.length ≤ 9223372036854775807) :
    Calls Tryz.prog 49 #[.agg #[.int .i64 v, .int .i64 e0, .slice A n c]] w (EncPost (snapOk v e0 P) (snapE v e0 P) w) := by
 have HRR := Lib.hid hr.out
 have HL := Lib.hid hl
 have HNM := Lib.hid hnm
 have HE : Hid (snapE v e0 P = encAll [3, v, e0, (n : Int)] ++ pinsE P) := Lib.hid (by rw [snapE_eq, hl])
 have HE4 : Hid ((encAll [3, v, e0, (n : Int)]).length ≤ 36) := Lib.hid (encAll_len [3, v, e0, (n : Int)])
 rw [HE.out]
 clear HE
 unfold EncPost
 cases hb : snapOk v e0 P
 case false =>
  go_enter Tryz.func49, Tryz.ntmps49
  go_wp2_with (first | ((with_reducible apply (wpl_box_agg (dst := some 1))); exact rfl; intro zt wzt _ _ _) | ((with_reducible apply wpl_loadrow); exact rfl; infer_instance; infer_instance; (first | (with_reducible assumption) | (with_reducible exact H32.size _) | (with_reducible exact enc_sz _ rfl) | kernel_rfl)))
  refine (rIsSnap_calls v e0 (P := P) hl hmax hnm).mono ?_
  rw [hb]
  rintro e w5 ⟨rfl, _⟩
  go_wp2_with fail
  go_ret2
  exact ⟨stepN, rfl⟩
 case true =>
  have hb2 : P.length ≤ 16 ∧ P.all pinOk = true := by
   have h9 := hb
   unfold snapOk at h9
   simp only [Bool.and_eq_true, decide_eq_true_eq] at h9
   exact ⟨h9.1.1.2, h9.1.2⟩
  have HP16 : Hid (n ≤ 16) := Lib.hid (by rw [← hl]; exact hb2.1)
  have HPA := Lib.hid hb2.2
  have kb4 := run_int4 3 v e0 (n : Int)
  clear hb2
  go_enter Tryz.func49, Tryz.ntmps49
  go_wp2_with (first | ((with_reducible apply (wpl_box_agg (dst := some 1))); exact rfl; intro zt wzt _ _ _) | ((with_reducible apply wpl_loadrow); exact rfl; infer_instance; infer_instance; (first | (with_reducible assumption) | (with_reducible exact H32.size _) | (with_reducible exact enc_sz _ rfl) | kernel_rfl)))
  refine (rIsSnap_calls v e0 (P := P) hl hmax hnm).mono ?_
  rw [hb]
  rintro e w5 ⟨rfl, _⟩
  have n5 : Nw w w5 := inferInstance
  have hl5 := (inferInstance : HB w5 zt 59 #[.int .i64 v, .int .i64 e0, .slice A n c]).out.lt
  clear hl hnm
  go_wp2_with (first | ((with_reducible apply (stop_dst (dst := some 16))); (try simp only [Act.put, sA, sB, sC]); ((with_reducible apply (wpl_bslice (dst := some 16))); exact kb4 _; intro zi wb _ _ _)) | ((with_reducible apply wpl_loadcellN); exact rfl; infer_instance; exact rfl))
  refine (refNums_calls (some ⟨zi, 0, none⟩) 4 4 [3, v, e0, (n : Int)] _ (HB.rdL (z := zi) (t := 3) (cs := #[.int .i64 3, .int .i64 v, .int .i64 e0, .int .i64 (n : Int)]) inferInstance) rfl (show 4 ≤ 1000000000 by decide)).mono ?_
  rintro e w6 ⟨A6, n6, c6, rfl, hF⟩
  have st6 : Step nowhere _ w6 := ⟨hF.out.chg⟩
  have hsz6 : w5.heap.size ≤ wb.heap.size := (inferInstance : SzLe w5 wb).out
  have hA6 : NewA w A6 := ⟨fun ad e => Nat.le_trans (Nat.le_trans n5.out.size hsz6) (hF.out.new ad e)⟩
  have ho6 : HO w6 5 1 A6 n6 c6 (bs (encAll [3, v, e0, (n : Int)] ++ pinsE (P.take 0))) := by
   have h1 := freshS_ho hF.out
   simpa [pinsE] using h1
  have hn6 : n6 ≤ 36 := by
   have h1 := hF.out.len
   have := HE4.out
   omega
  have HN6 : Hid (n6 = (encAll [3, v, e0, (n : Int)] ++ pinsE (P.take 0)).length) := Lib.hid (by rw [hF.out.len]; simp [pinsE])
  have os : OffB (rowOf A6) zt := ⟨fun ⟨ad, e, hk⟩ => by
   have h1 := Nat.le_trans hsz6 (hF.out.new ad e)
   omega⟩
  have ht6 : HB w6 zt 59 #[.int .i64 v, .int .i64 e0, .slice A n c] := inferInstance
  clear hF
  go_wp2_with fail
  go_loopw [4, 5] (fun bv iv wr => ∃ (k : Nat) (A1 : Option Addr) (n1 c1 : Nat), k ≤ n ∧ iv = .int .i64 (k : Int) ∧ bv = .slice A1 n1 c1 ∧ Step nowhere w wr ∧ HO wr 5 1 A1 n1 c1 (bs (encAll [3, v, e0, (n : Int)] ++ pinsE (P.take k))) ∧ NewA w A1 ∧ OffB (rowOf A1) zt ∧ n1 ≤ 36 + 40 * k ∧ Hid (n1 = (encAll [3, v, e0, (n : Int)] ++ pinsE (P.take k)).length) ∧ HB wr zt 59 #[.int .i64 v, .int .i64 e0, .slice A n c]) (fun _ iv _ => n - (intOf iv).toNat)
  case atStart => exact ⟨0, A6, n6, c6, Nat.zero_le _, rfl, rfl, stepN, ho6, hA6, os, by omega, HN6, ht6⟩
  case round =>
   clear ho6 hA6 os hn6 ht6 st6 n5 HN6 hsz6 hl5
   obtain ⟨k, A1, n1, c1, hk, rfl, rfl, _, hO, hA1, os, hn1, HN1, ht⟩ := hrel
   have st : Step nowhere w wr := inferInstance
   have nr : Nw w wr := ⟨st.chg⟩
   have hrw : HR wr A (cellsOf P) := ⟨HRR.out.later st.chg⟩
   have hl : P.length = n := HL.out
   have h16 := HP16.out
   by_cases hlt : k < n
   · have hltI : (k : Int) < n := by omega
     have hkl : k < P.length := by omega
     have hpl : (gt P k).l.length ≤ 12 := by
      have h3 := List.all_eq_true.1 HPA.out _ (gt_mem P k hkl)
      unfold pinOk nameL at h3
      simp only [Bool.and_eq_true, decide_eq_true_eq] at h3
      exact h3.1.1.2
     have HRL : Hid ((encRow (gt P k).l).length ≤ 21) := Lib.hid (by have := encRow_len (gt P k).l (by omega); omega)
     have HVL : Hid ((encAll [(gt P k).v]).length ≤ 9) := Lib.hid (encAll_len [(gt P k).v])
     have HTK : Hid (encAll [3, v, e0, (n : Int)] ++ pinsE (P.take k) ++ encRow (gt P k).l ++ encAll [(gt P k).v] = encAll [3, v, e0, (n : Int)] ++ pinsE (P.take (k + 1))) := Lib.hid (by rw [pinsE_take P k hkl, pinE]; simp)
     have hws : w.heap.size ≤ wr.heap.size := nr.out.size
     go_wp2_with (first | ((with_reducible apply wpl_loadcellN); exact rfl; infer_instance; exact rfl))
     refine wp_region_N ((rowOf A1)) (by kernel_rfl) (fun wd _ _ => ?_)
     refine' tk 0 _ rfl (by kernel_rfl) (by kernel_rfl) (by kernel_rfl) (fun _ _ _ h => h) (yo (by rfl) fun w' _ => ?_) inferInstance ?_
     rotate_left
     · (go_simp; try with_reducible rfl)
     try simp only [Act.put, sA, sB, sC]
     refine' tk 1 _ rfl (by kernel_rfl) (by kernel_rfl) (by kernel_rfl) (fun _ _ _ h => h) (yo (by rfl) fun w' _ => ?_) inferInstance ?_
     rotate_left
     · (go_simp; try with_reducible rfl)
     try simp only [Act.put, sA, sB, sC]
     refine' tk 2 _ rfl (by kernel_rfl) (by kernel_rfl) (by kernel_rfl) (fun _ _ _ h => h) (yo (by rfl) fun w' _ => ?_) inferInstance ?_
     rotate_left
     · ((apply ev_loadcellN); exact rfl; infer_instance; infer_instance; exact rfl)
     try simp only [Act.put, sA, sB, sC]
     refine' tk 3 _ rfl (by kernel_rfl) (by kernel_rfl) (by kernel_rfl) (fun _ _ _ h => h) (yo (by rfl) fun w' _ => ?_) inferInstance ?_
     rotate_left
     · (go_simp; try with_reducible rfl)
     try simp only [Act.put, sA, sB, sC]
     refine' tk 4 _ rfl (by kernel_rfl) (by kernel_rfl) (by kernel_rfl) (fun _ _ _ h => h) (yo (by rfl) fun w' _ => ?_) inferInstance ?_
     rotate_left
     · ((apply (ev_indexE (α := PinR) (t := 57))); exact rfl; exact rfl; infer_instance; infer_instance; (first | (with_reducible assumption) | omega | (focus (simp; done)) | (focus (simp; omega; done)) | decide); exact rfl; (decide); (first | (with_reducible assumption) | omega | (focus (simp; done)) | (focus (simp; omega; done)) | decide))
     try simp only [Act.put, sA, sB, sC]
     refine' tk 5 _ rfl (by kernel_rfl) (by kernel_rfl) (by kernel_rfl) (fun _ _ _ h => h) (yo (by rfl) fun w' _ => ?_) inferInstance ?_
     rotate_left
     · ((apply (ev_fieldE (t := 68))); exact Tryz.underlying68; exact rfl; (kernel_rfl); exact rfl; infer_instance; exact cells_pos (by decide) (by omega))
     try simp only [Act.put, sA, sB, sC]
     refine' tk 6 _ rfl (by kernel_rfl) (by kernel_rfl) (by kernel_rfl) (fun _ _ _ h => h) (yo (by rfl) fun w' _ => ?_) inferInstance ?_
     rotate_left
     · ((apply (ev_loadF (α := PinR))); infer_instance; exact rfl; infer_instance; exact rfl; (first | (with_reducible assumption) | omega | (focus (simp; done)) | (focus (simp; omega; done)) | decide); exact rfl)
     try simp only [Act.put, sA, sB, sC]
     refine' tk 9 _ rfl (by kernel_rfl) (by kernel_rfl) (by kernel_rfl) (fun _ _ _ h => h) (yo (by rfl) fun w' _ => ?_) inferInstance ?_
     rotate_left
     · (go_simp; try with_reducible rfl)
     try simp only [Act.put, sA, sB, sC]
     refine' tk 10 _ rfl (by kernel_rfl) (by kernel_rfl) (by kernel_rfl) (fun _ _ _ h => h) (yo (by rfl) fun w' _ => ?_) inferInstance ?_
     rotate_left
     · ((apply ev_loadcellN); exact rfl; infer_instance; infer_instance; exact rfl)
     try simp only [Act.put, sA, sB, sC]
     refine' tk 11 _ rfl (by kernel_rfl) (by kernel_rfl) (by kernel_rfl) (fun _ _ _ h => h) (yo (by rfl) fun w' _ => ?_) inferInstance ?_
     rotate_left
     · (go_simp; try with_reducible rfl)
     try simp only [Act.put, sA, sB, sC]
     refine' tk 12 _ rfl (by kernel_rfl) (by kernel_rfl) (by kernel_rfl) (fun _ _ _ h => h) (yo (by rfl) fun w' _ => ?_) inferInstance ?_
     rotate_left
     · ((apply (ev_indexE (α := PinR) (t := 57))); exact rfl; exact rfl; infer_instance; infer_instance; (first | (with_reducible assumption) | omega | (focus (simp; done)) | (focus (simp; omega; done)) | decide); exact rfl; (decide); (first | (with_reducible assumption) | omega | (focus (simp; done)) | (focus (simp; omega; done)) | decide))
     try simp only [Act.put, sA, sB, sC]
     refine' tk 13 _ rfl (by kernel_rfl) (by kernel_rfl) (by kernel_rfl) (fun _ _ _ h => h) (yo (by rfl) fun w' _ => ?_) inferInstance ?_
     rotate_left
     · ((apply (ev_fieldE (t := 68))); exact Tryz.underlying68; exact rfl; (kernel_rfl); exact rfl; infer_instance; exact cells_pos (by decide) (by omega))
     try simp only [Act.put, sA, sB, sC]
     refine' tk 14 _ rfl (by kernel_rfl) (by kernel_rfl) (by kernel_rfl) (fun _ _ _ h => h) (yo (by rfl) fun w' _ => ?_) inferInstance ?_
     rotate_left
     · ((apply (ev_loadF (α := PinR))); infer_instance; exact rfl; infer_instance; exact rfl; (first | (with_reducible assumption) | omega | (focus (simp; done)) | (focus (simp; omega; done)) | decide); exact rfl)
     try simp only [Act.put, sA, sB, sC]
     refine goH (i := 7) (by kernel_rfl) rfl (fun K_ hK_ => ?_)
     go_simp
     refine (rText_calls (strL (gt P k).l) (gt P k).l rfl (by omega) _).mono ?_
     rintro e w7 ⟨A7, n7, c7, rfl, hF⟩
     have st7 : Step nowhere _ w7 := ⟨hF.out.chg⟩
     have hr7 : HR w7 A7 (bs (encRow (gt P k).l)) := ⟨hF.out.own.rd⟩
     have HN7 : Hid (n7 = (encRow (gt P k).l).length) := Lib.hid hF.out.len
     have hl7 : (encRow (gt P k).l).length = n7 := hF.out.len.symm
     have hn7 : n7 ≤ 21 := by
      have := HRL.out
      omega
     clear hF
     refine hK_.out _ _ inferInstance (fun _ => ?_)
     clear hK_ K_
     try simp only [Act.put, sA, sB, sC]
     refine goH (i := 8) (by kernel_rfl) rfl (fun K_ hK_ => ?_)
     rw [if_pos (by kernel_rfl)]
     refine wpr_of_list ?_
     (first | ((with_reducible apply wpl_appendB); exact rfl; exact rfl; infer_instance; (first | exact inferInstance | exact ⟨Own.nil _ _ _⟩); infer_instance; (first | (with_reducible assumption) | (with_reducible exact H32.len _) | (focus (simp; done)) | omega); (first | (with_reducible assumption) | omega); intro A' c' wa _ _ _ hcap) | ((with_reducible apply wpl_appendH); exact rfl; exact rfl; infer_instance; (first | exact inferInstance | exact ⟨Own.nil _ _ _⟩); infer_instance; (first | (with_reducible assumption) | omega); intro A' c' wa _ _ _ hcap) | ((with_reducible apply (wpl_appendR (α := PinR))); exact rfl; exact rfl; infer_instance; (first | exact inferInstance | exact ⟨Own.nil _ _ _⟩); infer_instance; exact rfl; (first | (with_reducible assumption) | (with_reducible exact H32.len _) | (focus (simp; done)) | omega); (first | (with_reducible assumption) | omega); (decide); (decide); intro A' c' wa _ _ _ hcap))
     refine wpList_nil ?_
     unfold onlyN
     refine hK_.out _ _ inferInstance (fun _ => ?_)
     clear hK_ K_
     try simp only [Act.put, sA, sB, sC]
     refine goH (i := 15) (by kernel_rfl) rfl (fun K_ hK_ => ?_)
     go_simp
     refine (refNum_calls (gt P k).v _).mono ?_
     rintro e w9 ⟨A9, n9, c9, rfl, hF⟩
     have st9 : Step nowhere _ w9 := ⟨hF.out.chg⟩
     have hr9 : HR w9 A9 (bs (encAll [(gt P k).v])) := ⟨by rw [encAll_one]; exact hF.out.own.rd⟩
     have hl9 : (encAll [(gt P k).v]).length = n9 := by rw [encAll_one]; exact hF.out.len.symm
     have HN9 : Hid (n9 = (encAll [(gt P k).v]).length) := Lib.hid hl9.symm
     have hn9 : n9 ≤ 9 := by
      have := HVL.out
      omega
     clear hF
     refine hK_.out _ _ inferInstance (fun _ => ?_)
     clear hK_ K_
     try simp only [Act.put, sA, sB, sC]
     refine goH (i := 16) (by kernel_rfl) rfl (fun K_ hK_ => ?_)
     rw [if_pos (by kernel_rfl)]
     refine wpr_of_list ?_
     (first | ((with_reducible apply wpl_appendB); exact rfl; exact rfl; infer_instance; (first | exact inferInstance | exact ⟨Own.nil _ _ _⟩); infer_instance; (first | (with_reducible assumption) | (with_reducible exact H32.len _) | (focus (simp; done)) | omega); (first | (with_reducible assumption) | omega); intro A' c' wa _ _ _ hcap) | ((with_reducible apply wpl_appendH); exact rfl; exact rfl; infer_instance; (first | exact inferInstance | exact ⟨Own.nil _ _ _⟩); infer_instance; (first | (with_reducible assumption) | omega); intro A' c' wa _ _ _ hcap) | ((with_reducible apply (wpl_appendR (α := PinR))); exact rfl; exact rfl; infer_instance; (first | exact inferInstance | exact ⟨Own.nil _ _ _⟩); infer_instance; exact rfl; (first | (with_reducible assumption) | (with_reducible exact H32.len _) | (focus (simp; done)) | omega); (first | (with_reducible assumption) | omega); (decide); (decide); intro A' c' wa _ _ _ hcap))
     refine wpList_nil ?_
     unfold onlyN
     refine hK_.out _ _ inferInstance (fun _ => ?_)
     clear hK_ K_
     try simp only [Act.put, sA, sB, sC]
     refine' tk 17 _ rfl (by kernel_rfl) (by kernel_rfl) (by kernel_rfl) (fun _ _ _ h => h) (yo (by rfl) fun w' _ => ?_) inferInstance ?_
     rotate_left
     · (go_simp; try with_reducible rfl)
     try simp only [Act.put, sA, sB, sC]
     refine wpAnyH_done (by kernel_rfl) ?_ _
     all_goals
      go_wp2_with fail
      refine ⟨⟨k + 1, A', n1 + n7 + n9, c', by omega, by go_num, rfl, stepN, ?_, inferInstance, inferInstance, by omega, Lib.hid ?_, inferInstance⟩, by simp [intOf]; omega⟩
      · rw [← HTK.out]
        infer_instance
      · rw [← HTK.out, List.length_append, List.length_append, ← HN1.out, ← HN7.out, ← HN9.out]
   · have hltI : ¬ (k : Int) < n := by omega
     have hkn : k = n := by omega
     have hfin : P.take k = P := List.take_of_length_le (by omega)
     rw [hfin] at hO HN1
     clear hkn hfin
     go_wp2_with (first | ((with_reducible apply wpl_loadcellN); exact rfl; infer_instance; exact rfl))
     go_ret2
     exact ⟨stepN, A1, n1, c1, rfl, by have h9 := HN1.out; simpa using h9, hO, hA1⟩
end Go.Proofs.YtgjnjhhhbkidbaaGreat
