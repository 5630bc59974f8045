/- FwG -/
import Derived.Test.YtgjnjhhhbkidbaaGreatUcFwE
import Derived.Test.YtgjnjhhhbkidbaaGreatUcRoM
open Go Go.RowKit
namespace Go.Proofs.YtgjnjhhhbkidbaaGreat
theorem tg_tail {w : World} {z : Nat} {x : TargetR} {t : TypeId} (hb : HB w z t (RowC.enc x).toArray) : HR w (some ⟨z, 2, none⟩) (bs x.sum.l) := ⟨by
 have h1 := (hb.rdL.drop 2).take 32
 rw [tgc_sum] at h1
 exact h1⟩
theorem fresh_hoF {w0 w : World} {A : Option Addr} {n c : Nat} {xs : List UInt8} (h : Fresh w0 w A n c xs) : HO w 5 1 A n c (bs xs) := ⟨h.own⟩
set_option maxRecDepth 100000 in
set_option maxHeartbeats 3200000 in
theorem rTarget_calls (t : TargetR) (ht : tgOk t = true) (w : World) :
    Calls Tryz.prog 95 #[.agg (RowC.enc t).toArray] w fun e w' => ∃ A n c, e = .returned (.slice A n c) ∧ Step nowhere w w' ∧ HO w' 5 1 A n c (bs (tgE t)) ∧ NewA w A ∧ n ≤ 200 ∧ n = (tgE t).length := by
 obtain ⟨a1, _, a3, _, a5⟩ := tgOk_in ht
 have H1 : Hid ((encRow t.l).length ≤ 21) := Lib.hid (by have := encRow_le t.l (by omega); omega)
 have H2 : Hid ((encAll [t.size]).length ≤ 9) := Lib.hid (encAll_len [t.size])
 have H3 : Hid ((encRow t.hw).length ≤ 21) := Lib.hid (by have := encRow_le t.hw (by omega); omega)
 have H4 : Hid ((encAll [t.ctr]).length ≤ 9) := Lib.hid (encAll_len [t.ctr])
 have H5 : Hid ((encRow t.ecu).length ≤ 21) := Lib.hid (by have := encRow_le t.ecu (by omega); omega)
 have HE : Hid (tgE t = encRow t.l ++ encAll [t.size] ++ t.sum.l ++ encRow t.hw ++ encAll [t.ctr] ++ encRow t.ecu) := Lib.hid (by simp [tgE])
 have hx1 : t.l.length ≤ 1000000000 := by omega
 have hx3 : t.hw.length ≤ 1000000000 := by omega
 have hx5 : t.ecu.length ≤ 1000000000 := by omega
 have hsz : (RowC.enc t).toArray.size = 37 := tgR_len t
 have hon := enc_one t
 rw [HE.out]
 clear ht a1 a3 a5
 go_enter Tryz.func95, Tryz.ntmps95
 go_wp2_with (first | ((with_reducible apply (wpl_box_agg (dst := some 1))); exact rfl; intro zt wzt _ _ _))
 have n1 : Nw w wzt := inferInstance
 have hb1 : HB wzt zt 42 (RowC.enc t).toArray := inferInstance
 refine wp_region_N (nowhere) (by kernel_rfl) (fun wd _ _ => ?_)
 refine' tk 0 _ rfl (by kernel_rfl) (by kernel_rfl) (by kernel_rfl) (fun _ _ _ h => h) (yo (by rfl) fun w' _ => ?_) inferInstance ?_
 rotate_left
 · (go_simp; try with_reducible rfl)
 try simp only [Act.put, sA, sB, sC]
 refine' tk 1 _ rfl (by kernel_rfl) (by kernel_rfl) (by kernel_rfl) (fun _ _ _ h => h) (yo (by rfl) fun w' _ => ?_) inferInstance ?_
 rotate_left
 · ((apply (ev_loadcellN (k := 0))); exact rfl; infer_instance; infer_instance; exact tgc_0 _)
 try simp only [Act.put, sA, sB, sC]
 refine' tk 3 _ rfl (by kernel_rfl) (by kernel_rfl) (by kernel_rfl) (fun _ _ _ h => h) (yo (by rfl) fun w' _ => ?_) inferInstance ?_
 rotate_left
 · (go_simp; try with_reducible rfl)
 try simp only [Act.put, sA, sB, sC]
 refine' tk 4 _ rfl (by kernel_rfl) (by kernel_rfl) (by kernel_rfl) (fun _ _ _ h => h) (yo (by rfl) fun w' _ => ?_) inferInstance ?_
 rotate_left
 · ((apply (ev_loadcellN (k := 1))); exact rfl; infer_instance; infer_instance; exact tgc_1 _)
 try simp only [Act.put, sA, sB, sC]
 refine goH (i := 2) (by kernel_rfl) rfl (fun K_ hK_ => ?_)
 go_simp
 refine (rText_calls (strL t.l) t.l rfl hx1 _).mono ?_
 rintro e w6 ⟨A6, n6, c6, rfl, hF⟩
 have st6 : Step nowhere _ w6 := ⟨hF.out.chg⟩
 have hA6 : NewA wzt A6 := ⟨fun ad e => Nat.le_trans (stepN (w0 := wzt)).chg.size (hF.out.new ad e)⟩
 have hA6d : NewA wd A6 := ⟨fun ad e => Nat.le_trans (stepN (w0 := wd)).chg.size (hF.out.new ad e)⟩
 have ho6 : HO w6 5 1 A6 n6 c6 (bs (encRow t.l)) := fresh_hoF hF.out
 have HN6 : Hid (n6 = (encRow t.l).length) := Lib.hid hF.out.len
 have hn6 : n6 ≤ 21 := by
  have := HN6.out
  have := H1.out
  omega
 clear hF
 refine hK_.out _ _ inferInstance (fun _ => ?_)
 clear hK_ K_
 try simp only [Act.put, sA, sB, sC]
 refine goH (i := 5) (by kernel_rfl) rfl (fun K_ hK_ => ?_)
 go_simp
 refine (refNum_calls t.size _).mono ?_
 rintro e w7 ⟨A7, n7, c7, rfl, hF⟩
 have st7 : Step nowhere _ w7 := ⟨hF.out.chg⟩
 have hr7 : HR w7 A7 (bs (encAll [t.size])) := ⟨by rw [encAll_one]; exact hF.out.own.rd⟩
 have hl7 : (encAll [t.size]).length = n7 := by rw [encAll_one]; exact hF.out.len.symm
 have HN7 : Hid (n7 = (encAll [t.size]).length) := Lib.hid hl7.symm
 have hn7 : n7 ≤ 9 := by
  have := H2.out
  omega
 clear hF
 refine hK_.out _ _ inferInstance (fun _ => ?_)
 clear hK_ K_
 try simp only [Act.put, sA, sB, sC]
 refine goH (i := 6) (by kernel_rfl) rfl (fun K_ hK_ => ?_)
 rw [if_pos (by kernel_rfl)]
 refine wpr_of_list ?_
 ((with_reducible apply wpl_appendB); exact rfl; exact rfl; infer_instance; (first | exact inferInstance | exact ⟨Own.nil _ _ _⟩); infer_instance; (first | (with_reducible assumption) | (with_reducible exact H32.len _) | (focus (simp; done)) | omega); (first | (with_reducible assumption) | omega); intro A' c' wa _ _ _ hcap)
 refine wpList_nil ?_
 unfold onlyN
 refine hK_.out _ _ inferInstance (fun _ => ?_)
 clear hK_ K_
 try simp only [Act.put, sA, sB, sC]
 refine' tk 7 _ rfl (by kernel_rfl) (by kernel_rfl) (by kernel_rfl) (fun _ _ _ h => h) (yo (by rfl) fun w' _ => ?_) inferInstance ?_
 rotate_left
 · (go_simp; try with_reducible rfl)
 try simp only [Act.put, sA, sB, sC]
 refine wpAnyH_done (by kernel_rfl) ?_ _
 go_wp2_with fail
 have hAa : NewA w A' := NewA.monoS (inferInstance : NewA wd A')
 have st3 : Step nowhere w wa := stepN
 have hoa : HO wa 5 1 A' (n6 + n7) c' (bs (encRow t.l ++ encAll [t.size])) := inferInstance
 have hb3 : HB wa zt 42 (RowC.enc t).toArray := inferInstance
 have hrt : HR wa (some ⟨zt, 2, none⟩) (bs t.sum.l) := tg_tail hb3
 have hsl : t.sum.l.length = 32 := t.sum.len
 refine wp_region_N ((rowOf A')) (by kernel_rfl) (fun wd _ _ => ?_)
 refine' tk 0 _ rfl (by kernel_rfl) (by kernel_rfl) (by kernel_rfl) (fun _ _ _ h => h) (yo (by rfl) fun w' _ => ?_) inferInstance ?_
 rotate_left
 · (go_simp; try with_reducible rfl)
 try simp only [Act.put, sA, sB, sC]
 refine' tk 1 _ rfl (by kernel_rfl) (by kernel_rfl) (by kernel_rfl) (fun _ _ _ h => h) (yo (by rfl) fun w' _ => ?_) inferInstance ?_
 rotate_left
 · (go_simp; try with_reducible rfl)
 try simp only [Act.put, sA, sB, sC]
 refine' tk 2 _ rfl (by kernel_rfl) (by kernel_rfl) (by kernel_rfl) (fun _ _ _ h => h) (yo (by rfl) fun w' _ => ?_) inferInstance ?_
 rotate_left
 · ((apply (ev_sl_arrK (m := 32) (e := 5))); exact rfl; exact Tryz.underlying23; (kernel_rfl))
 try simp only [Act.put, sA, sB, sC]
 refine' tk 4 _ rfl (by kernel_rfl) (by kernel_rfl) (by kernel_rfl) (fun _ _ _ h => h) (yo (by rfl) fun w' _ => ?_) inferInstance ?_
 rotate_left
 · (go_simp; try with_reducible rfl)
 try simp only [Act.put, sA, sB, sC]
 refine' tk 5 _ rfl (by kernel_rfl) (by kernel_rfl) (by kernel_rfl) (fun _ _ _ h => h) (yo (by rfl) fun w' _ => ?_) inferInstance ?_
 rotate_left
 · ((apply (ev_loadcellN (k := 34))); exact rfl; infer_instance; infer_instance; exact tgc_34 _)
 try simp only [Act.put, sA, sB, sC]
 refine goH (i := 3) (by kernel_rfl) rfl (fun K_ hK_ => ?_)
 rw [if_pos (by kernel_rfl)]
 refine wpr_of_list ?_
 ((with_reducible apply wpl_appendB); exact rfl; exact rfl; infer_instance; (first | exact inferInstance | exact ⟨Own.nil _ _ _⟩); infer_instance; (first | (with_reducible assumption) | (with_reducible exact H32.len _) | (focus (simp; done)) | omega); (first | (with_reducible assumption) | omega); intro A' c' wa _ _ _ hcap)
 refine wpList_nil ?_
 unfold onlyN
 refine hK_.out _ _ inferInstance (fun _ => ?_)
 clear hK_ K_
 try simp only [Act.put, sA, sB, sC]
 refine goH (i := 6) (by kernel_rfl) rfl (fun K_ hK_ => ?_)
 go_simp
 refine (rText_calls (strL t.hw) t.hw rfl hx3 _).mono ?_
 rintro e w9 ⟨A9, n9, c9, rfl, hF⟩
 have st9 : Step nowhere _ w9 := ⟨hF.out.chg⟩
 have hr9 : HR w9 A9 (bs (encRow t.hw)) := ⟨hF.out.own.rd⟩
 have HN9 : Hid (n9 = (encRow t.hw).length) := Lib.hid hF.out.len
 have hl9 : (encRow t.hw).length = n9 := hF.out.len.symm
 have hn9 : n9 ≤ 21 := by
  have := H3.out
  omega
 clear hF
 refine hK_.out _ _ inferInstance (fun _ => ?_)
 clear hK_ K_
 try simp only [Act.put, sA, sB, sC]
 refine goH (i := 7) (by kernel_rfl) rfl (fun K_ hK_ => ?_)
 rw [if_pos (by kernel_rfl)]
 refine wpr_of_list ?_
 ((with_reducible apply wpl_appendB); exact rfl; exact rfl; infer_instance; (first | exact inferInstance | exact ⟨Own.nil _ _ _⟩); infer_instance; (first | (with_reducible assumption) | (with_reducible exact H32.len _) | (focus (simp; done)) | omega); (first | (with_reducible assumption) | omega); intro A' c' wa _ _ _ hcap)
 refine wpList_nil ?_
 unfold onlyN
 refine hK_.out _ _ inferInstance (fun _ => ?_)
 clear hK_ K_
 try simp only [Act.put, sA, sB, sC]
 refine' tk 8 _ rfl (by kernel_rfl) (by kernel_rfl) (by kernel_rfl) (fun _ _ _ h => h) (yo (by rfl) fun w' _ => ?_) inferInstance ?_
 rotate_left
 · (go_simp; try with_reducible rfl)
 try simp only [Act.put, sA, sB, sC]
 refine wpAnyH_done (by kernel_rfl) ?_ _
 all_goals
  go_wp2_with fail
  have hoc : HO wa 5 1 A' (n6 + n7 + 32 + n9) c' (bs (encRow t.l ++ encAll [t.size] ++ t.sum.l ++ encRow t.hw)) := inferInstance
  have hAc : NewA w A' := inferInstance
  have stc : Step nowhere w wa := stepN
  have hbc : HB wa zt 42 (RowC.enc t).toArray := inferInstance
  have HLC : Hid (n6 + n7 + 32 + n9 = (encRow t.l ++ encAll [t.size] ++ t.sum.l ++ encRow t.hw).length) := Lib.hid (by rw [List.length_append, List.length_append, List.length_append, ← HN6.out, ← HN7.out, ← HN9.out, t.sum.len])
  have hnc : n6 + n7 + 32 + n9 ≤ 83 := by omega
  clear hn6 hn7 hn9 hl7 hl9 hsl hoa hAa
  generalize n6 + n7 + 32 + n9 = N2 at *
  generalize wa = w2 at *
  generalize A' = A2 at *
  generalize c' = c2 at *
  obtain ⟨X2, hX2⟩ : ∃ X, X = encRow t.l ++ encAll [t.size] ++ t.sum.l ++ encRow t.hw := ⟨_, rfl⟩
  rw [← hX2] at hoc HLC
  have HX2 := Lib.hid hX2
  clear hX2
  refine wp_region_N ((rowOf A2)) (by kernel_rfl) (fun wd _ _ => ?_)
  refine' tk 0 _ rfl (by kernel_rfl) (by kernel_rfl) (by kernel_rfl) (fun _ _ _ h => h) (yo (by rfl) fun w' _ => ?_) inferInstance ?_
  rotate_left
  · (go_simp; try with_reducible rfl)
  try simp only [Act.put, sA, sB, sC]
  refine' tk 1 _ rfl (by kernel_rfl) (by kernel_rfl) (by kernel_rfl) (fun _ _ _ h => h) (yo (by rfl) fun w' _ => ?_) inferInstance ?_
  rotate_left
  · (go_simp; try with_reducible rfl)
  try simp only [Act.put, sA, sB, sC]
  refine' tk 2 _ rfl (by kernel_rfl) (by kernel_rfl) (by kernel_rfl) (fun _ _ _ h => h) (yo (by rfl) fun w' _ => ?_) inferInstance ?_
  rotate_left
  · ((apply (ev_loadcellN (k := 35))); exact rfl; infer_instance; infer_instance; exact tgc_35 _)
  try simp only [Act.put, sA, sB, sC]
  refine' tk 5 _ rfl (by kernel_rfl) (by kernel_rfl) (by kernel_rfl) (fun _ _ _ h => h) (yo (by rfl) fun w' _ => ?_) inferInstance ?_
  rotate_left
  · (go_simp; try with_reducible rfl)
  try simp only [Act.put, sA, sB, sC]
  refine' tk 6 _ rfl (by kernel_rfl) (by kernel_rfl) (by kernel_rfl) (fun _ _ _ h => h) (yo (by rfl) fun w' _ => ?_) inferInstance ?_
  rotate_left
  · ((apply (ev_loadcellN (k := 36))); exact rfl; infer_instance; infer_instance; exact tgc_36 _)
  try simp only [Act.put, sA, sB, sC]
  refine goH (i := 3) (by kernel_rfl) rfl (fun K_ hK_ => ?_)
  go_simp
  refine (refNum_calls t.ctr _).mono ?_
  rintro e w10 ⟨A10, n10, c10, rfl, hF⟩
  have st10 : Step nowhere _ w10 := ⟨hF.out.chg⟩
  have hr10 : HR w10 A10 (bs (encAll [t.ctr])) := ⟨by rw [encAll_one]; exact hF.out.own.rd⟩
  have hl10 : (encAll [t.ctr]).length = n10 := by rw [encAll_one]; exact hF.out.len.symm
  have HN10 : Hid (n10 = (encAll [t.ctr]).length) := Lib.hid hl10.symm
  have hn10 : n10 ≤ 9 := by
   have := H4.out
   omega
  clear hF
  refine hK_.out _ _ inferInstance (fun _ => ?_)
  clear hK_ K_
  try simp only [Act.put, sA, sB, sC]
  refine goH (i := 4) (by kernel_rfl) rfl (fun K_ hK_ => ?_)
  rw [if_pos (by kernel_rfl)]
  refine wpr_of_list ?_
  ((with_reducible apply wpl_appendB); exact rfl; exact rfl; infer_instance; (first | exact inferInstance | exact ⟨Own.nil _ _ _⟩); infer_instance; (first | (with_reducible assumption) | (with_reducible exact H32.len _) | (focus (simp; done)) | omega); (first | (with_reducible assumption) | omega); intro A' c' wa _ _ _ hcap)
  refine wpList_nil ?_
  unfold onlyN
  refine hK_.out _ _ inferInstance (fun _ => ?_)
  clear hK_ K_
  try simp only [Act.put, sA, sB, sC]
  refine goH (i := 7) (by kernel_rfl) rfl (fun K_ hK_ => ?_)
  go_simp
  refine (rText_calls (strL t.ecu) t.ecu rfl hx5 _).mono ?_
  rintro e w11 ⟨A11, n11, c11, rfl, hF⟩
  have st11 : Step nowhere _ w11 := ⟨hF.out.chg⟩
  have hr11 : HR w11 A11 (bs (encRow t.ecu)) := ⟨hF.out.own.rd⟩
  have HN11 : Hid (n11 = (encRow t.ecu).length) := Lib.hid hF.out.len
  have hl11 : (encRow t.ecu).length = n11 := hF.out.len.symm
  have hn11 : n11 ≤ 21 := by
   have := H5.out
   omega
  clear hF
  refine hK_.out _ _ inferInstance (fun _ => ?_)
  clear hK_ K_
  try simp only [Act.put, sA, sB, sC]
  refine goH (i := 8) (by kernel_rfl) rfl (fun K_ hK_ => ?_)
  rw [if_pos (by kernel_rfl)]
  refine wpr_of_list ?_
  ((with_reducible apply wpl_appendB); exact rfl; exact rfl; infer_instance; (first | exact inferInstance | exact ⟨Own.nil _ _ _⟩); infer_instance; (first | (with_reducible assumption) | (with_reducible exact H32.len _) | (focus (simp; done)) | omega); (first | (with_reducible assumption) | omega); intro A' c' wa _ _ _ hcap)
  refine wpList_nil ?_
  unfold onlyN
  refine hK_.out _ _ inferInstance (fun _ => ?_)
  clear hK_ K_
  try simp only [Act.put, sA, sB, sC]
  refine' tk 9 _ rfl (by kernel_rfl) (by kernel_rfl) (by kernel_rfl) (fun _ _ _ h => h) (yo (by rfl) fun w' _ => ?_) inferInstance ?_
  rotate_left
  · (go_simp; try with_reducible rfl)
  try simp only [Act.put, sA, sB, sC]
  refine wpAnyH_done (by kernel_rfl) ?_ _
  all_goals
   go_wp2_with fail
   go_ret
   refine ⟨A', N2 + n10 + n11, c', rfl, stepN, ?_, inferInstance, by omega, ?_⟩
   · have hO : HO wa 5 1 A' (N2 + n10 + n11) c' (bs (X2 ++ encAll [t.ctr] ++ encRow t.ecu)) := inferInstance
     rw [← HX2.out]
     exact hO
   · rw [← HX2.out, List.length_append, List.length_append, ← HLC.out, ← HN10.out, ← HN11.out]
end Go.Proofs.YtgjnjhhhbkidbaaGreat
