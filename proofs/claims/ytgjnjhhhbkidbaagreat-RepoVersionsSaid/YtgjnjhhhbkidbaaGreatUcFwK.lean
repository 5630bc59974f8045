/- FwK -/
import Derived.Test.YtgjnjhhhbkidbaaGreatUcFwF
import Derived.Test.YtgjnjhhhbkidbaaGreatUcFwC
import Derived.Test.YtgjnjhhhbkidbaaGreatUcFwH
open Go Go.RowKit
namespace Go.Proofs.YtgjnjhhhbkidbaaGreat
theorem tgsE_take (P : List TargetR) (k : Nat) (h : k < P.length) : tgsE (P.take (k + 1)) = tgsE (P.take k) ++ tgE (gt P k) := by
 rw [← List.take_append_getElem h, tgsE, List.flatMap_append]
 simp [gt, List.getD_eq_getElem?_getD, h, tgsE]
theorem dlsE_take (D : List DeleR) (k : Nat) (h : k < D.length) : dlsE (D.take (k + 1)) = dlsE (D.take k) ++ dlE (gt D k) := by
 rw [← List.take_append_getElem h, dlsE, List.flatMap_append]
 simp [gt, List.getD_eq_getElem?_getD, h, dlsE]
theorem run_int3F (a b c : Int) (w : World) : (Instr.buildSlice 223 3 #[(0, .int .i64 a), (1, .int .i64 b), (2, .int .i64 c)]).run Tryz.prog w = .ok (.slice (some ⟨w.heap.size, 0, none⟩) 3 3) (w.alloc (.cells #[.int .i64 a, .int .i64 b, .int .i64 c] 3)) := by kernel_rfl
set_option maxRecDepth 100000 in
set_option maxHeartbeats 6400000 in
theorem rEncodeTargets_calls (nm : List UInt8) (v e0 : Int) {A C : Option Addr} {n c m d : Nat} {P : List TargetR} {D : List DeleR} {w : World} [hr : HR w A (cellsOf P)] [hq : HR w C (cellsOf D)] (hl : P.length = n) (hm : D.length = m) (hmax : n ≤ 1466015503700) (hmaxm : m ≤ 1954687338769) (hnm : nm.length ≤ 9223372036854775807) (hP : ∀ t ∈ P, t.l.length ≤ 9223372036854775807 ∧ t.hw.length ≤ 9223372036854775807 ∧ t.ecu.length ≤ 9223372036854775807) (hD : ∀ k ∈ D, DInW w k ∧ k.l.length ≤ 9223372036854775807 ∧ k.pre.length ≤ 9223372036854775807) :
    Calls Tryz.prog 52 #[.agg #[.string (strL nm), .int .i64 v, .int .i64 e0, .slice A n c, .slice C m d]] w (EncPost (tgsOk nm v e0 P D) (tgsEM nm v e0 P (D.map DeleR.m)) w) := by
 have HRR := Lib.hid hr.out
 have HQQ := Lib.hid hq.out
 have HL := Lib.hid hl
 have HM := Lib.hid hm
 have HPL := Lib.hid hP
 have HDL := Lib.hid hD
 have HNM := Lib.hid hnm
 unfold EncPost
 cases hb : tgsOk nm v e0 P D
 case false =>
  clear hP hD hl hm
  go_enter Tryz.func52, Tryz.ntmps52
  go_wp2_with (first | ((with_reducible apply (wpl_box_agg (dst := some 1))); exact rfl; intro zt wzt _ _ _) | ((with_reducible apply wpl_loadrow); exact rfl; infer_instance; infer_instance; (first | (with_reducible assumption) | (with_reducible exact H32.size _) | (with_reducible exact enc_sz _ rfl) | kernel_rfl)))
  refine (rIsTargets_calls nm v e0 (P := P) (D := D) HL.out HM.out hmax hmaxm hnm HPL.out (fun k hk => ⟨DInW.nw (w0 := w) (HDL.out k hk).1, (HDL.out k hk).2⟩)).mono ?_
  rw [hb]
  rintro e w5 ⟨rfl, _⟩
  go_wp2_with fail
  go_ret2
  exact ⟨stepN, rfl⟩
 case true =>
  have hin := tgsOk_in hb
  have hn16 : n ≤ 16 := by have := hin.2.1; omega
  have hm16 : m ≤ 16 := by have := hin.2.2.2.1; omega
  have HPA := Lib.hid (List.all_eq_true.1 hin.2.2.1)
  have HDA := Lib.hid (List.all_eq_true.1 hin.2.2.2.2)
  have hnl : nm.length ≤ 1000000000 := by have := nameL_le hin.1; omega
  have H1 : Hid ((encRow nm).length ≤ 21) := Lib.hid (by have := nameL_le hin.1; have := encRow_le nm (by omega); omega)
  have H0 : Hid ((encAll [4]).length ≤ 9) := Lib.hid (encAll_len [4])
  have H3 : Hid ((encAll [v, e0, (n : Int)]).length ≤ 27) := Lib.hid (encAll_len [v, e0, (n : Int)])
  have H4 : Hid ((encAll [(m : Int)]).length ≤ 9) := Lib.hid (encAll_len [(m : Int)])
  have HE : Hid (tgsEM nm v e0 P (D.map DeleR.m) = encAll [4] ++ encRow nm ++ encAll [v, e0, (n : Int)] ++ tgsE P ++ encAll [(m : Int)] ++ dlsE D) := Lib.hid (by
   rw [← tgsB_m nm v e0 hl hm, tgsB, show [v, e0, (n : Int)] = [v, e0] ++ [(n : Int)] from rfl, encAll_app]
   simp)
  have kb3 := run_int3F v e0 (n : Int)
  rw [HE.out]
  clear hin HE hP hD hl hm
  go_enter Tryz.func52, Tryz.ntmps52
  go_wp2_with (first | ((with_reducible apply (wpl_box_agg (dst := some 1))); exact rfl; intro zt wzt _ _ _) | ((with_reducible apply wpl_loadrow); exact rfl; infer_instance; infer_instance; (first | (with_reducible assumption) | (with_reducible exact H32.size _) | (with_reducible exact enc_sz _ rfl) | kernel_rfl)))
  refine (rIsTargets_calls nm v e0 (P := P) (D := D) HL.out HM.out hmax hmaxm hnm HPL.out (fun k hk => ⟨DInW.nw (w0 := w) (HDL.out k hk).1, (HDL.out k hk).2⟩)).mono ?_
  rw [hb]
  rintro e w5 ⟨rfl, _⟩
  go_wp2_with fail
  have n5 : Nw w w5 := inferInstance
  have ht5 : HB w5 zt 64 #[.string (strL nm), .int .i64 v, .int .i64 e0, .slice A n c, .slice C m d] := inferInstance
  have hl5 := ht5.out.lt
  refine wp_region_N (nowhere) (by kernel_rfl) (fun wd _ _ => ?_)
  refine' tk 1 _ rfl (by kernel_rfl) (by kernel_rfl) (by kernel_rfl) (fun _ _ _ h => h) (yo (by rfl) fun w' _ => ?_) inferInstance ?_
  rotate_left
  · (go_simp; try with_reducible rfl)
  try simp only [Act.put, sA, sB, sC]
  refine' tk 2 _ rfl (by kernel_rfl) (by kernel_rfl) (by kernel_rfl) (fun _ _ _ h => h) (yo (by rfl) fun w' _ => ?_) inferInstance ?_
  rotate_left
  · ((apply (ev_loadcellN (k := 0))); exact rfl; infer_instance; infer_instance; exact rfl)
  try simp only [Act.put, sA, sB, sC]
  refine goH (i := 0) (by kernel_rfl) rfl (fun K_ hK_ => ?_)
  go_simp
  refine (refNum_calls 4 _).mono ?_
  rintro e w6 ⟨A6, n6, c6, rfl, hF⟩
  have st6 : Step nowhere _ w6 := ⟨hF.out.chg⟩
  have hA6 : NewA w5 A6 := ⟨fun ad e => Nat.le_trans (stepN (w0 := w5)).chg.size (hF.out.new ad e)⟩
  have hA6d : NewA wd A6 := ⟨fun ad e => Nat.le_trans (stepN (w0 := wd)).chg.size (hF.out.new ad e)⟩
  have ho6 : HO w6 5 1 A6 n6 c6 (bs (encAll [4])) := by
   rw [encAll_one]
   exact fresh_hoF hF.out
  have HN6 : Hid (n6 = (encAll [4]).length) := Lib.hid (by rw [encAll_one]; exact hF.out.len)
  have hn6 : n6 ≤ 9 := by
   have := HN6.out
   have := H0.out
   omega
  clear hF
  refine hK_.out _ _ inferInstance (fun _ => ?_)
  clear hK_ K_
  try simp only [Act.put, sA, sB, sC]
  refine goH (i := 3) (by kernel_rfl) rfl (fun K_ hK_ => ?_)
  go_simp
  refine (rText_calls (strL nm) nm rfl hnl _).mono ?_
  rintro e w7 ⟨A7, n7, c7, rfl, hF⟩
  have st7 : Step nowhere _ w7 := ⟨hF.out.chg⟩
  have hr7 : HR w7 A7 (bs (encRow nm)) := ⟨hF.out.own.rd⟩
  have HN7 : Hid (n7 = (encRow nm).length) := Lib.hid hF.out.len
  have hl7 : (encRow nm).length = n7 := hF.out.len.symm
  have hn7 : n7 ≤ 21 := by
   have := H1.out
   omega
  clear hF
  refine hK_.out _ _ inferInstance (fun _ => ?_)
  clear hK_ K_
  try simp only [Act.put, sA, sB, sC]
  refine goH (i := 4) (by kernel_rfl) rfl (fun K_ hK_ => ?_)
  rw [if_pos (by kernel_rfl)]
  refine wpr_of_list ?_
  (first | ((with_reducible apply wpl_appendB); exact rfl; exact rfl; infer_instance; (first | exact inferInstance | exact ⟨Own.nil _ _ _⟩); infer_instance; (first | (with_reducible assumption) | (with_reducible exact H32.len _) | (focus (simp; done)) | omega); (first | (with_reducible assumption) | omega); intro A' c' wa _ _ _ hcap) | ((with_reducible apply wpl_appendH); exact rfl; exact rfl; infer_instance; (first | exact inferInstance | exact ⟨Own.nil _ _ _⟩); infer_instance; (first | (with_reducible assumption) | omega); intro A' c' wa _ _ _ hcap) | ((with_reducible apply (wpl_appendR (α := TargetR))); exact rfl; exact rfl; infer_instance; (first | exact inferInstance | exact ⟨Own.nil _ _ _⟩); infer_instance; exact rfl; (first | (with_reducible assumption) | (with_reducible exact H32.len _) | (focus (simp; done)) | omega); (first | (with_reducible assumption) | omega); (decide); (decide); intro A' c' wa _ _ _ hcap) | ((with_reducible apply (wpl_appendR (α := DeleR))); exact rfl; exact rfl; infer_instance; (first | exact inferInstance | exact ⟨Own.nil _ _ _⟩); infer_instance; exact rfl; (first | (with_reducible assumption) | (with_reducible exact H32.len _) | (focus (simp; done)) | omega); (first | (with_reducible assumption) | omega); (decide); (decide); intro A' c' wa _ _ _ hcap))
  refine wpList_nil ?_
  unfold onlyN
  refine hK_.out _ _ inferInstance (fun _ => ?_)
  clear hK_ K_
  try simp only [Act.put, sA, sB, sC]
  refine' tk 5 _ rfl (by kernel_rfl) (by kernel_rfl) (by kernel_rfl) (fun _ _ _ h => h) (yo (by rfl) fun w' _ => ?_) inferInstance ?_
  rotate_left
  · (go_simp; try with_reducible rfl)
  try simp only [Act.put, sA, sB, sC]
  refine wpAnyH_done (by kernel_rfl) ?_ _
  have hAa : NewA w5 A' := NewA.monoS (inferInstance : NewA wd A')
  have st3 : Step nowhere w wa := stepN
  have hoa : HO wa 5 1 A' (n6 + n7) c' (bs (encAll [4] ++ encRow nm)) := inferInstance
  have hta : HB wa zt 64 #[.string (strL nm), .int .i64 v, .int .i64 e0, .slice A n c, .slice C m d] := inferInstance
  have HLN : Hid (n6 + n7 = (encAll [4] ++ encRow nm).length) := Lib.hid (by rw [List.length_append, ← HN6.out, ← HN7.out])
  have hn : n6 + n7 ≤ 30 := by omega
  clear hn6 hn7 hl7
  generalize n6 + n7 = N0 at *
  generalize wa = w1 at *
  generalize A' = A0 at *
  generalize c' = c0 at *
  have os0 : OffB (rowOf A0) zt := ⟨fun ⟨ad, e, hk⟩ => by
   have h1 := hAa.out ad e
   omega⟩
  have hwA0 : NewA w A0 := ⟨fun ad e => Nat.le_trans n5.out.size (hAa.out ad e)⟩
  obtain ⟨X0, hX0⟩ : ∃ X, X = encAll [4] ++ encRow nm := ⟨_, rfl⟩
  rw [← hX0] at hoa HLN
  have HX0 := Lib.hid hX0
  clear hX0
  go_wp2_with (first | ((with_reducible apply (stop_dst (dst := some 23))); (try simp only [Act.put, sA, sB, sC]); ((with_reducible apply (wpl_bslice (dst := some 23))); exact kb3 _; intro zi wb _ _ _)) | ((with_reducible apply wpl_loadcellN); exact rfl; infer_instance; exact rfl))
  refine (refNums_calls (some ⟨zi, 0, none⟩) 3 3 [v, e0, (n : Int)] _ (HB.rdL (z := zi) (t := 3) (cs := #[.int .i64 v, .int .i64 e0, .int .i64 (n : Int)]) inferInstance) rfl (show 3 ≤ 1000000000 by decide)).mono ?_
  rintro e w9 ⟨A9, n9, c9, rfl, hF⟩
  have st9 : Step nowhere _ w9 := ⟨hF.out.chg⟩
  have hr9 : HR w9 A9 (bs (encAll [v, e0, (n : Int)])) := ⟨hF.out.own.rd⟩
  have HN9 : Hid (n9 = (encAll [v, e0, (n : Int)]).length) := Lib.hid hF.out.len
  have hl9 : (encAll [v, e0, (n : Int)]).length = n9 := hF.out.len.symm
  have hn9 : n9 ≤ 27 := by
   have := H3.out
   omega
  clear hF
  go_wp2_with (first | ((with_reducible apply wpl_appendB); exact rfl; exact rfl; infer_instance; (first | exact inferInstance | exact ⟨Own.nil _ _ _⟩); infer_instance; (first | (with_reducible assumption) | (with_reducible exact H32.len _) | (focus (simp; done)) | omega); (first | (with_reducible assumption) | omega); intro A' c' wa _ _ _ hcap))
  have hob : HO wa 5 1 A' (N0 + n9) c' (bs (X0 ++ encAll [v, e0, (n : Int)])) := inferInstance
  have htb : HB wa zt 64 #[.string (strL nm), .int .i64 v, .int .i64 e0, .slice A n c, .slice C m d] := inferInstance
  have hAb : NewA w A' := inferInstance
  have osb : OffB (rowOf A') zt := inferInstance
  have stb : Step nowhere w wa := stepN
  have HLB : Hid (N0 + n9 = (X0 ++ encAll [v, e0, (n : Int)]).length) := Lib.hid (by rw [List.length_append, ← HLN.out, ← HN9.out])
  have hnb : N0 + n9 ≤ 57 := by omega
  clear hn9 hl9 hn hoa os0 hwA0 hAa HLN hta hl5 ht5
  generalize N0 + n9 = N1 at *
  generalize wa = w2 at *
  generalize A' = A1 at *
  generalize c' = c1 at *
  obtain ⟨X1, hX1⟩ : ∃ X, X = X0 ++ encAll [v, e0, (n : Int)] := ⟨_, rfl⟩
  rw [← hX1] at hob HLB
  have HX1 := Lib.hid hX1
  clear hX1
  go_loopw [4, 5] (fun bv iv wr => ∃ (k : Nat) (A2 : Option Addr) (n2 c2 : Nat), k ≤ n ∧ iv = .int .i64 (k : Int) ∧ bv = .slice A2 n2 c2 ∧ Step nowhere w wr ∧ HO wr 5 1 A2 n2 c2 (bs (X1 ++ tgsE (P.take k))) ∧ NewA w A2 ∧ OffB (rowOf A2) zt ∧ n2 ≤ 57 + 200 * k ∧ Hid (n2 = (X1 ++ tgsE (P.take k)).length) ∧ HB wr zt 64 #[.string (strL nm), .int .i64 v, .int .i64 e0, .slice A n c, .slice C m d]) (fun _ iv _ => n - (intOf iv).toNat)
  case atStart => exact ⟨0, A1, N1, c1, Nat.zero_le _, rfl, rfl, stb, by simpa [tgsE] using hob, hAb, osb, by omega, Lib.hid (by simpa [tgsE] using HLB.out), htb⟩
  case round =>
   clear hob hAb osb stb htb HLB hnb
   obtain ⟨k, A2, n2, c2, hk, rfl, rfl, _, hO, hA2, os, hn2, HN2, ht⟩ := hrel
   have st : Step nowhere w wr := inferInstance
   have nr : Nw w wr := ⟨st.chg⟩
   have hrw : HR wr A (cellsOf P) := ⟨HRR.out.later st.chg⟩
   have hl : P.length = n := HL.out
   by_cases hlt : k < n
   · have hltI : (k : Int) < n := by omega
     have hkl : k < P.length := by omega
     have HTK : Hid (X1 ++ tgsE (P.take k) ++ tgE (gt P k) = X1 ++ tgsE (P.take (k + 1))) := Lib.hid (by rw [tgsE_take P k hkl]; simp)
     have HOK := Lib.hid (HPA.out _ (gt_mem P k hkl))
     go_wp2_with (first | ((with_reducible apply wpl_loadcellN); exact rfl; infer_instance; exact rfl) | ((with_reducible apply (wpl_indexE (α := TargetR) (t := 40))); exact rfl; exact rfl; infer_instance; infer_instance; (first | (with_reducible assumption) | omega | (focus (simp; done)) | (focus (simp; omega; done)) | decide); exact rfl; (decide); (first | (with_reducible assumption) | omega | (focus (simp; done)) | (focus (simp; omega; done)) | decide)) | ((with_reducible apply (wpl_loadE (α := TargetR) (t := 42))); infer_instance; exact rfl; infer_instance; exact rfl; (decide); (first | (with_reducible assumption) | omega | (focus (simp; done)) | (focus (simp; omega; done)) | decide)))
     refine (rTarget_calls (gt P k) HOK.out _).mono ?_
     rintro e w7 ⟨A7, n7, c7, rfl, st7, hO7, hA7, hn7, hl7⟩
     have hr7 : HR w7 A7 (bs (tgE (gt P k))) := ⟨hO7.out.rd⟩
     have hl7' : (tgE (gt P k)).length = n7 := hl7.symm
     have HN7 := Lib.hid hl7
     clear hO7 hl7
     go_wp2_with (first | ((with_reducible apply wpl_appendB); exact rfl; exact rfl; infer_instance; (first | exact inferInstance | exact ⟨Own.nil _ _ _⟩); infer_instance; (first | (with_reducible assumption) | (with_reducible exact H32.len _) | (focus (simp; done)) | omega); (first | (with_reducible assumption) | omega); intro A' c' wa _ _ _ hcap))
     refine ⟨⟨k + 1, A', n2 + n7, c', by omega, by go_num, rfl, stepN, ?_, inferInstance, inferInstance, by omega, Lib.hid ?_, inferInstance⟩, by simp [intOf]; omega⟩
     · rw [← HTK.out]
       infer_instance
     · rw [← HTK.out, List.length_append, ← HN2.out, ← HN7.out]
   · have hltI : ¬ (k : Int) < n := by omega
     have hkn : k = n := by omega
     have hfin : P.take k = P := List.take_of_length_le (by omega)
     rw [hfin] at hO HN2
     have hn2' : n2 ≤ 57 + 200 * 16 := by omega
     clear hkn hfin hn2
     obtain ⟨X2, hX2⟩ : ∃ X, X = X1 ++ tgsE P := ⟨_, rfl⟩
     rw [← hX2] at hO HN2
     have HX2 := Lib.hid hX2
     clear hX2
     go_wp2_with (first | ((with_reducible apply wpl_loadcellN); exact rfl; infer_instance; exact rfl))
     refine (refNum_calls (m : Int) _).mono ?_
     rintro e w8 ⟨A8, n8, c8, rfl, hF⟩
     have st8 : Step nowhere _ w8 := ⟨hF.out.chg⟩
     have hr8 : HR w8 A8 (bs (encAll [(m : Int)])) := ⟨by rw [encAll_one]; exact hF.out.own.rd⟩
     have hl8 : (encAll [(m : Int)]).length = n8 := by rw [encAll_one]; exact hF.out.len.symm
     have HN8 : Hid (n8 = (encAll [(m : Int)]).length) := Lib.hid hl8.symm
     have hn8 : n8 ≤ 9 := by
      have := H4.out
      omega
     clear hF
     go_wp2_with (first | ((with_reducible apply wpl_appendB); exact rfl; exact rfl; infer_instance; (first | exact inferInstance | exact ⟨Own.nil _ _ _⟩); infer_instance; (first | (with_reducible assumption) | (with_reducible exact H32.len _) | (focus (simp; done)) | omega); (first | (with_reducible assumption) | omega); intro A' c' wa _ _ _ hcap))
     have hob : HO wa 5 1 A' (n2 + n8) c' (bs (X2 ++ encAll [(m : Int)])) := inferInstance
     have htb : HB wa zt 64 #[.string (strL nm), .int .i64 v, .int .i64 e0, .slice A n c, .slice C m d] := inferInstance
     have hAb : NewA w A' := inferInstance
     have osb : OffB (rowOf A') zt := inferInstance
     have stb : Step nowhere w wa := stepN
     have HLB : Hid (n2 + n8 = (X2 ++ encAll [(m : Int)]).length) := Lib.hid (by rw [List.length_append, ← HN2.out, ← HN8.out])
     have hnb : n2 + n8 ≤ 3300 := by omega
     clear hn8 hl8 hO os hA2 HN2 ht hn2' st nr hrw
     generalize n2 + n8 = N3 at *
     generalize wa = w3 at *
     generalize A' = A3 at *
     generalize c' = c3 at *
     obtain ⟨X3, hX3⟩ : ∃ X, X = X2 ++ encAll [(m : Int)] := ⟨_, rfl⟩
     rw [← hX3] at hob HLB
     have HX3 := Lib.hid hX3
     clear hX3
     go_loopw [4, 6] (fun bv iv wr => ∃ (k : Nat) (A2 : Option Addr) (n2 c2 : Nat), k ≤ m ∧ iv = .int .i64 (k : Int) ∧ bv = .slice A2 n2 c2 ∧ Step nowhere w wr ∧ HO wr 5 1 A2 n2 c2 (bs (X3 ++ dlsE (D.take k))) ∧ NewA w A2 ∧ OffB (rowOf A2) zt ∧ n2 ≤ 3300 + 300 * k ∧ Hid (n2 = (X3 ++ dlsE (D.take k)).length) ∧ HB wr zt 64 #[.string (strL nm), .int .i64 v, .int .i64 e0, .slice A n c, .slice C m d]) (fun _ iv _ => m - (intOf iv).toNat)
     case atStart => exact ⟨0, A3, N3, c3, Nat.zero_le _, rfl, rfl, stb, by simpa [dlsE] using hob, hAb, osb, by omega, Lib.hid (by simpa [dlsE] using HLB.out), htb⟩
     case round =>
      clear hob hAb osb stb htb HLB hnb
      obtain ⟨k, A2, n2, c2, hk, rfl, rfl, _, hO, hA2, os, hn2, HN2, ht⟩ := hrel
      have st : Step nowhere w wr := inferInstance
      have nr : Nw w wr := ⟨st.chg⟩
      have hqw : HR wr C (cellsOf D) := ⟨HQQ.out.later st.chg⟩
      have hm : D.length = m := HM.out
      by_cases hlt : k < m
      · have hltI : (k : Int) < m := by omega
        have hkl : k < D.length := by omega
        have HTK : Hid (X3 ++ dlsE (D.take k) ++ dlE (gt D k) = X3 ++ dlsE (D.take (k + 1))) := Lib.hid (by rw [dlsE_take D k hkl]; simp)
        have HOK := Lib.hid (HDA.out _ (gt_mem D k hkl))
        have HDI := Lib.hid (HDL.out _ (gt_mem D k hkl)).1
        go_wp2_with (first | ((with_reducible apply wpl_loadcellN); exact rfl; infer_instance; exact rfl) | ((with_reducible apply (wpl_indexE (α := DeleR) (t := 62))); exact rfl; exact rfl; infer_instance; infer_instance; (first | (with_reducible assumption) | omega | (focus (simp; done)) | (focus (simp; omega; done)) | decide); exact rfl; (decide); (first | (with_reducible assumption) | omega | (focus (simp; done)) | (focus (simp; omega; done)) | decide)) | ((with_reducible apply (wpl_loadE (α := DeleR) (t := 115))); infer_instance; exact rfl; infer_instance; exact rfl; (decide); (first | (with_reducible assumption) | omega | (focus (simp; done)) | (focus (simp; omega; done)) | decide)))
        refine (rDele_calls (gt D k) HOK.out (DInW.nw (w0 := w) HDI.out)).mono ?_
        rintro e w7 ⟨A7, n7, c7, rfl, st7, hO7, hA7, hn7, hl7⟩
        have hr7 : HR w7 A7 (bs (dlE (gt D k))) := ⟨hO7.out.rd⟩
        have hl7' : (dlE (gt D k)).length = n7 := hl7.symm
        have HN7 := Lib.hid hl7
        clear hO7 hl7
        go_wp2_with (first | ((with_reducible apply wpl_appendB); exact rfl; exact rfl; infer_instance; (first | exact inferInstance | exact ⟨Own.nil _ _ _⟩); infer_instance; (first | (with_reducible assumption) | (with_reducible exact H32.len _) | (focus (simp; done)) | omega); (first | (with_reducible assumption) | omega); intro A' c' wa _ _ _ hcap))
        refine ⟨⟨k + 1, A', n2 + n7, c', by omega, by go_num, rfl, stepN, ?_, inferInstance, inferInstance, by omega, Lib.hid ?_, inferInstance⟩, by simp [intOf]; omega⟩
        · rw [← HTK.out]
          infer_instance
        · rw [← HTK.out, List.length_append, ← HN2.out, ← HN7.out]
      · have hltI : ¬ (k : Int) < m := by omega
        have hkn : k = m := by omega
        have hfin : D.take k = D := List.take_of_length_le (by omega)
        rw [hfin] at hO HN2
        clear hkn hfin
        go_wp2_with (first | ((with_reducible apply wpl_loadcellN); exact rfl; infer_instance; exact rfl))
        rw [HX3.out, HX2.out, HX1.out, HX0.out] at hO HN2
        go_ret2
        exact ⟨stepN, A2, n2, c2, rfl, by have h9 := HN2.out; simpa using h9, by simpa only [List.append_assoc] using hO, hA2⟩
end Go.Proofs.YtgjnjhhhbkidbaaGreat
