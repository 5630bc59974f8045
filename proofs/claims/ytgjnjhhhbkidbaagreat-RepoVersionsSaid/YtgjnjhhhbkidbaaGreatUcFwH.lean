/- FwH -/
import Derived.Test.YtgjnjhhhbkidbaaGreatUcFwG
open Go Go.RowKit
namespace Go.Proofs.YtgjnjhhhbkidbaaGreat
theorem run_u8T (w : World) : (Instr.buildSlice 29 1 #[(0, .int .u8 1)]).run Tryz.prog w = .ok (.slice (some ⟨w.heap.size, 0, none⟩) 1 1) (w.alloc (.cells #[.int .u8 1] 5)) := by kernel_rfl
theorem run_u8F (w : World) : (Instr.buildSlice 29 1 #[(0, .int .u8 0)]).run Tryz.prog w = .ok (.slice (some ⟨w.heap.size, 0, none⟩) 1 1) (w.alloc (.cells #[.int .u8 0] 5)) := by kernel_rfl
theorem HR.byteT {w : World} {z : Nat} (h : HB w z 5 #[.int .u8 1]) : HR w (some ⟨z, 0, none⟩) (bs [1]) := ⟨h.rdL⟩
theorem HR.byteF {w : World} {z : Nat} (h : HB w z 5 #[.int .u8 0]) : HR w (some ⟨z, 0, none⟩) (bs [0]) := ⟨h.rdL⟩
theorem flagE_eq (b : Bool) : flagE b = [if b then 1 else 0] := by
 unfold flagE
 rw [encAll_one]
 cases b
 · rw [show clampN (if false = true then 1 else 0) = 0 from rfl, enc_small (by decide)]
   rfl
 · rw [show clampN (if true = true then 1 else 0) = 1 from rfl, enc_small (by decide)]
   rfl
set_option maxRecDepth 100000 in
set_option maxHeartbeats 3200000 in
theorem rDele_calls (x : DeleR) (hx : dlOk x = true) {w : World} (hi : DInW w x) :
    Calls Tryz.prog 96 #[.agg (RowC.enc x).toArray] w fun e w' => ∃ A n c, e = .returned (.slice A n c) ∧ Step nowhere w w' ∧ HO w' 5 1 A n c (bs (dlE x)) ∧ NewA w A ∧ n ≤ 300 ∧ n = (dlE x).length := by
 have hin : x.l.length ≤ 12 ∧ isB x.k.l x.k.need = true ∧ x.pre.length ≤ 12 := by
  have h := hx
  unfold dlOk at h
  simp only [Bool.and_eq_true] at h
  exact ⟨nameL_le h.1.1, h.1.2, nameE_le h.2⟩
 obtain ⟨a1, a2, a3⟩ := hin
 obtain ⟨b1, b2, b3⟩ := isB_in a2
 have hk4 : x.k.n ≤ 4 := by have := hi.len; omega
 have H1 : Hid ((encRow x.l).length ≤ 21) := Lib.hid (by have := encRow_le x.l (by omega); omega)
 have H3 : Hid ((encRow x.pre).length ≤ 21) := Lib.hid (by have := encRow_le x.pre (by omega); omega)
 obtain ⟨F0, hF0⟩ : ∃ F : UInt8, F = if x.last then 1 else 0 := ⟨_, rfl⟩
 have HF0 := Lib.hid hF0
 have HE : Hid (dlE x = encRow x.l ++ keyB x.k.l x.k.need ++ encRow x.pre ++ [F0]) := Lib.hid (by rw [hF0, ← flagE_eq]; simp [dlE])
 have hx1 : x.l.length ≤ 1000000000 := by omega
 have hx3 : x.pre.length ≤ 1000000000 := by omega
 have hsz : (RowC.enc x).toArray.size = 5 := rfl
 have hon := enc_one x
 have HI := Lib.hid hi
 have hkn : x.k.n ≤ 1000 := by omega
 rw [HE.out]
 clear hx a1 a2 a3 b1 b2 b3 hi hF0
 go_enter Tryz.func96, Tryz.ntmps96
 go_wp2_with (first | ((with_reducible apply (wpl_box_agg (dst := some 1))); exact rfl; intro zt wzt _ _ _))
 have hb1 : HB wzt zt 115 (RowC.enc x).toArray := inferInstance
 refine wp_region_N (nowhere) (by kernel_rfl) (fun wd _ _ => ?_)
 refine' tk 0 _ rfl (by kernel_rfl) (by kernel_rfl) (by kernel_rfl) (fun _ _ _ h => h) (yo (by rfl) fun w' _ => ?_) inferInstance ?_
 rotate_left
 · (go_simp; try with_reducible rfl)
 try simp only [Act.put, sA, sB, sC]
 refine' tk 1 _ rfl (by kernel_rfl) (by kernel_rfl) (by kernel_rfl) (fun _ _ _ h => h) (yo (by rfl) fun w' _ => ?_) inferInstance ?_
 rotate_left
 · ((apply (ev_loadcellN (k := 0))); exact rfl; infer_instance; infer_instance; exact rfl)
 try simp only [Act.put, sA, sB, sC]
 refine' tk 3 _ rfl (by kernel_rfl) (by kernel_rfl) (by kernel_rfl) (fun _ _ _ h => h) (yo (by rfl) fun w' _ => ?_) inferInstance ?_
 rotate_left
 · (go_simp; try with_reducible rfl)
 try simp only [Act.put, sA, sB, sC]
 refine' tk 4 _ rfl (by kernel_rfl) (by kernel_rfl) (by kernel_rfl) (fun _ _ _ h => h) (yo (by rfl) fun w' _ => ?_) inferInstance ?_
 rotate_left
 · ((apply ev_loadMid); exact rfl; infer_instance; infer_instance; exact dl_keys _; exact rfl; (decide))
 try simp only [Act.put, sA, sB, sC]
 refine' tk 7 _ rfl (by kernel_rfl) (by kernel_rfl) (by kernel_rfl) (fun _ _ _ h => h) (yo (by rfl) fun w' _ => ?_) inferInstance ?_
 rotate_left
 · (go_simp; try with_reducible rfl)
 try simp only [Act.put, sA, sB, sC]
 refine' tk 8 _ rfl (by kernel_rfl) (by kernel_rfl) (by kernel_rfl) (fun _ _ _ h => h) (yo (by rfl) fun w' _ => ?_) inferInstance ?_
 rotate_left
 · ((apply (ev_loadcellN (k := 3))); exact rfl; infer_instance; infer_instance; exact rfl)
 try simp only [Act.put, sA, sB, sC]
 refine goH (i := 2) (by kernel_rfl) rfl (fun K_ hK_ => ?_)
 go_simp
 refine (rText_calls (strL x.l) x.l rfl hx1 _).mono ?_
 rintro e w6 ⟨A6, n6, c6, rfl, hF⟩
 have st6 : Step nowhere _ w6 := ⟨hF.out.chg⟩
 have hA6 : NewA wzt A6 := ⟨fun ad e => Nat.le_trans (stepN (w0 := wzt)).chg.size (hF.out.new ad e)⟩
 have hA6d : NewA wd A6 := ⟨fun ad e => Nat.le_trans (stepN (w0 := wd)).chg.size (hF.out.new ad e)⟩
 have ho6 : HO w6 5 1 A6 n6 c6 (bs (encRow x.l)) := fresh_hoF hF.out
 have HN6 : Hid (n6 = (encRow x.l).length) := Lib.hid hF.out.len
 have hn6 : n6 ≤ 21 := by
  have := HN6.out
  have := H1.out
  omega
 clear hF
 refine hK_.out _ _ inferInstance (fun _ => ?_)
 clear hK_ K_
 try simp only [Act.put, sA, sB, sC]
 refine goH (i := 5) (by kernel_rfl) rfl (fun K_ hK_ => ?_)
 go_simp
 have hrk : HR w6 x.k.A (cellsOf x.k.l) := ⟨HI.out.rd.later (stepN (w0 := w)).chg⟩
 refine (rKeys_calls (l := x.k.l) x.k.need HI.out.len hkn).mono ?_
 rintro e w7 ⟨A7, n7, c7, rfl, st7, hO7, _, hn7⟩
 have hr7 : HR w7 A7 (bs (keyB x.k.l x.k.need)) := ⟨hO7.out.rd⟩
 have hl7 : (keyB x.k.l x.k.need).length = n7 := by
  have h9 := hO7.out.len
  rw [bs_length] at h9
  omega
 have HN7 : Hid (n7 = (keyB x.k.l x.k.need).length) := Lib.hid hl7.symm
 have hn7' : n7 ≤ 146 := by omega
 clear hO7
 refine hK_.out _ _ inferInstance (fun _ => ?_)
 clear hK_ K_
 try simp only [Act.put, sA, sB, sC]
 refine goH (i := 6) (by kernel_rfl) rfl (fun K_ hK_ => ?_)
 rw [if_pos (by kernel_rfl)]
 refine wpr_of_list ?_
 (first | ((with_reducible apply wpl_appendB); exact rfl; exact rfl; infer_instance; (first | exact inferInstance | exact ⟨Own.nil _ _ _⟩); infer_instance; (first | (with_reducible assumption) | (with_reducible exact H32.len _) | (focus (simp; done)) | omega); (first | (with_reducible assumption) | omega); intro A' c' wa _ _ _ hcap) | ((with_reducible apply wpl_appendH); exact rfl; exact rfl; infer_instance; (first | exact inferInstance | exact ⟨Own.nil _ _ _⟩); infer_instance; (first | (with_reducible assumption) | omega); intro A' c' wa _ _ _ hcap) | ((with_reducible apply (wpl_appendR (α := DeleR))); exact rfl; exact rfl; infer_instance; (first | exact inferInstance | exact ⟨Own.nil _ _ _⟩); infer_instance; exact rfl; (first | (with_reducible assumption) | (with_reducible exact H32.len _) | (focus (simp; done)) | omega); (first | (with_reducible assumption) | omega); (decide); (decide); intro A' c' wa _ _ _ hcap))
 refine wpList_nil ?_
 unfold onlyN
 refine hK_.out _ _ inferInstance (fun _ => ?_)
 clear hK_ K_
 try simp only [Act.put, sA, sB, sC]
 refine goH (i := 9) (by kernel_rfl) rfl (fun K_ hK_ => ?_)
 go_simp
 refine (rText_calls (strL x.pre) x.pre rfl hx3 _).mono ?_
 rintro e w9 ⟨A9, n9, c9, rfl, hF⟩
 have st9 : Step nowhere _ w9 := ⟨hF.out.chg⟩
 have hr9 : HR w9 A9 (bs (encRow x.pre)) := ⟨hF.out.own.rd⟩
 have HN9 : Hid (n9 = (encRow x.pre).length) := Lib.hid hF.out.len
 have hl9 : (encRow x.pre).length = n9 := hF.out.len.symm
 have hn9 : n9 ≤ 21 := by
  have := H3.out
  omega
 clear hF
 refine hK_.out _ _ inferInstance (fun _ => ?_)
 clear hK_ K_
 try simp only [Act.put, sA, sB, sC]
 refine goH (i := 10) (by kernel_rfl) rfl (fun K_ hK_ => ?_)
 rw [if_pos (by kernel_rfl)]
 refine wpr_of_list ?_
 (first | ((with_reducible apply wpl_appendB); exact rfl; exact rfl; infer_instance; (first | exact inferInstance | exact ⟨Own.nil _ _ _⟩); infer_instance; (first | (with_reducible assumption) | (with_reducible exact H32.len _) | (focus (simp; done)) | omega); (first | (with_reducible assumption) | omega); intro A' c' wa _ _ _ hcap) | ((with_reducible apply wpl_appendH); exact rfl; exact rfl; infer_instance; (first | exact inferInstance | exact ⟨Own.nil _ _ _⟩); infer_instance; (first | (with_reducible assumption) | omega); intro A' c' wa _ _ _ hcap) | ((with_reducible apply (wpl_appendR (α := DeleR))); exact rfl; exact rfl; infer_instance; (first | exact inferInstance | exact ⟨Own.nil _ _ _⟩); infer_instance; exact rfl; (first | (with_reducible assumption) | (with_reducible exact H32.len _) | (focus (simp; done)) | omega); (first | (with_reducible assumption) | omega); (decide); (decide); intro A' c' wa _ _ _ hcap))
 refine wpList_nil ?_
 unfold onlyN
 refine hK_.out _ _ inferInstance (fun _ => ?_)
 clear hK_ K_
 try simp only [Act.put, sA, sB, sC]
 refine' tk 11 _ rfl (by kernel_rfl) (by kernel_rfl) (by kernel_rfl) (fun _ _ _ h => h) (yo (by rfl) fun w' _ => ?_) inferInstance ?_
 rotate_left
 · (go_simp; try with_reducible rfl)
 try simp only [Act.put, sA, sB, sC]
 refine wpAnyH_done (by kernel_rfl) ?_ _
 all_goals
  have hAa : NewA w A' := NewA.monoS (inferInstance : NewA wd A')
  have st3 : Step nowhere w wa := stepN
  have hoa : HO wa 5 1 A' (n6 + n7 + n9) c' (bs (encRow x.l ++ keyB x.k.l x.k.need ++ encRow x.pre)) := inferInstance
  have hb3 : HB wa zt 115 (RowC.enc x).toArray := inferInstance
  have HLN : Hid (n6 + n7 + n9 = (encRow x.l ++ keyB x.k.l x.k.need ++ encRow x.pre).length) := Lib.hid (by rw [List.length_append, List.length_append, ← HN6.out, ← HN7.out, ← HN9.out])
  have hn : n6 + n7 + n9 ≤ 188 := by omega
  clear hn6 hn7 hn9 hn7' hl7 hl9
  generalize n6 + n7 + n9 = N at *
  generalize wa = w1 at *
  generalize A' = A1 at *
  generalize c' = c1 at *
  have hl1 : ([1] : List UInt8).length = 1 := rfl
  have hl0 : ([0] : List UInt8).length = 1 := rfl
  cases hlast : x.last
  case true =>
   have hcl : nth (RowC.enc x) 4 = some (.bool true) := by rw [← hlast]; rfl
   have HFB : Hid (F0 = 1) := Lib.hid (by rw [HF0.out, hlast]; rfl)
   have HCL := Lib.hid hcl
   clear hcl
   clear hlast
   go_wp2_with (first | ((with_reducible apply (wpl_loadcellN (k := 4))); exact rfl; exact hb3; exact HCL.out) | ((with_reducible apply (stop_dst (dst := some 18))); (with_reducible apply wpl_bslice); exact run_u8T _; intro zb wb _ _ _; have hbr : HR wb (some ⟨zb, 0, none⟩) (bs [1]) := HR.byteT inferInstance) | ((with_reducible apply wpl_appendB); exact rfl; exact rfl; infer_instance; infer_instance; infer_instance; exact hl1; omega; intro A2 c2 wx _ _ _ _))
   go_ret
   refine ⟨A2, N + 1, c2, rfl, stepN, ?_, inferInstance, by omega, ?_⟩
   · rw [HFB.out]
     have hO : HO wx 5 1 A2 (N + 1) c2 (bs (encRow x.l ++ keyB x.k.l x.k.need ++ encRow x.pre ++ [1])) := inferInstance
     exact hO
   · have h9 := HLN.out
     simp only [List.length_append, List.length_cons, List.length_nil] at h9 ⊢
     omega
  case false =>
   have hcl : nth (RowC.enc x) 4 = some (.bool false) := by rw [← hlast]; rfl
   have HFB : Hid (F0 = 0) := Lib.hid (by rw [HF0.out, hlast]; rfl)
   have HCL := Lib.hid hcl
   clear hcl
   clear hlast
   go_wp2_with (first | ((with_reducible apply (wpl_loadcellN (k := 4))); exact rfl; exact hb3; exact HCL.out) | ((with_reducible apply (stop_dst (dst := some 21))); (with_reducible apply wpl_bslice); exact run_u8F _; intro zb wb _ _ _; have hbr : HR wb (some ⟨zb, 0, none⟩) (bs [0]) := HR.byteF inferInstance) | ((with_reducible apply wpl_appendB); exact rfl; exact rfl; infer_instance; infer_instance; infer_instance; exact hl0; omega; intro A2 c2 wx _ _ _ _))
   go_ret
   refine ⟨A2, N + 1, c2, rfl, stepN, ?_, inferInstance, by omega, ?_⟩
   · rw [HFB.out]
     have hO : HO wx 5 1 A2 (N + 1) c2 (bs (encRow x.l ++ keyB x.k.l x.k.need ++ encRow x.pre ++ [0])) := inferInstance
     exact hO
   · have h9 := HLN.out
     simp only [List.length_append, List.length_cons, List.length_nil] at h9 ⊢
     omega
end Go.Proofs.YtgjnjhhhbkidbaaGreat
