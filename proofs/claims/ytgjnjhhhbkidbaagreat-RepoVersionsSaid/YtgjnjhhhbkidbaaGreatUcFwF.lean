/- FwF -/
import Derived.Test.YtgjnjhhhbkidbaaGreatUcFwE
import Derived.BigGuard
open Go Go.RowKit
namespace Go.Proofs.YtgjnjhhhbkidbaaGreat
def tsV (nm : List UInt8) (v e0 : Int) (A : Option Addr) (n c : Nat) (C : Option Addr) (m d : Nat) : Array Value := #[.string (strL nm), .int .i64 v, .int .i64 e0, .slice A n c, .slice C m d]
set_option maxRecDepth 100000 in
set_option maxHeartbeats 12800000 in
theorem rIsTargets_calls (nm : List UInt8) (v e0 : Int) {A C : Option Addr} {n c m d : Nat} {P : List TargetR} {D : List DeleR} {w : World} [hr : HR w A (cellsOf P)] [hq : HR w C (cellsOf D)] (hl : P.length = n) (hm : D.length = m) (hmax : n ≤ 1466015503700) (hmaxm : m ≤ 1954687338769) (hnm : nm.length ≤ 9223372036854775807) (hP : ∀ t ∈ P, t.l.length ≤ 9223372036854775807 ∧ t.hw.length ≤ 9223372036854775807 ∧ t.ecu.length ≤ 9223372036854775807) (hD : ∀ k ∈ D, DInW w k ∧ k.l.length ≤ 9223372036854775807 ∧ k.pre.length ≤ 9223372036854775807) :
    Calls Tryz.prog 94 #[.agg #[.string (strL nm), .int .i64 v, .int .i64 e0, .slice A n c, .slice C m d]] w fun e w' => e = .returned (.bool (tgsOk nm v e0 P D)) ∧ Step nowhere w w' := by
 have HRR := Lib.hid hr.out
 have HQQ := Lib.hid hq.out
 have HL := Lib.hid hl
 have HM := Lib.hid hm
 have HPL := Lib.hid hP
 have HDL := Lib.hid hD
 have HNM := Lib.hid hnm
 have kb1 := run_int1 e0
 obtain ⟨R, hR⟩ : ∃ R, R = tgsOk nm v e0 P D := ⟨_, rfl⟩
 have hR2 := hR
 rw [tgsOk_pre, hl, hm] at hR2
 have HR0 := Lib.hid hR2
 rw [← hR]
 clear hR hR2 hnm hP hD hl hm
 go_enter Tryz.func94, Tryz.ntmps94
 go_wp2_with (first | ((with_reducible apply (wpl_box_agg (dst := some 1))); exact rfl; intro zt wzt _ _ _))
 have hzt : w.heap.size ≤ zt := Nat.le_of_eq (inferInstance : Born w zt).eq.symm
 go_loopw [3] (fun iv wr => ∃ k : Nat, k ≤ n ∧ (16 < n → k = 0) ∧ iv = .int .i64 (k : Int) ∧ Hid (tgPre P k = true) ∧ Step nowhere w wr ∧ HB wr zt 64 #[.string (strL nm), .int .i64 v, .int .i64 e0, .slice A n c, .slice C m d]) (fun iv _ => n - (intOf iv).toNat)
 case atStart => exact ⟨0, Nat.zero_le _, fun _ => rfl, rfl, Lib.hid rfl, stepN, inferInstance⟩
 case round =>
  obtain ⟨k, hk, hk0, rfl, HJ, st, ht⟩ := hrel
  have nr : Nw w wr := ⟨st.chg⟩
  have hrw : HR wr A (cellsOf P) := ⟨HRR.out.later st.chg⟩
  have hl : P.length = n := HL.out
  by_cases hlt : k < n ∧ n ≤ 16
  focus
   obtain ⟨hlt, h16⟩ := hlt
   have hltI : (k : Int) < n := by omega
   have h16I : (n : Int) ≤ 16 := by omega
   have hkl : k < P.length := by omega
   have hs3 : (strL (gt P k).l).size ≤ 9223372036854775807 ∧ (strL (gt P k).hw).size ≤ 9223372036854775807 ∧ (strL (gt P k).ecu).size ≤ 9223372036854775807 := by
    rw [strL_sizeF, strL_sizeF, strL_sizeF]
    exact HPL.out _ (gt_mem P k hkl)
   have HS3 := Lib.hid hs3
   obtain ⟨V, hV⟩ : ∃ V, V = tgOk (gt P k) := ⟨_, rfl⟩
   have HV := Lib.hid hV
   have hpb : tgPre P (k + 1) = (V && (decide (k = 0) || tgLt (gt P (k - 1)) (gt P k))) := by rw [tgPre, HJ.out, Bool.true_and, ← hV]
   have HPB := Lib.hid hpb
   have HNO : Hid (tgPre P (k + 1) = false → R = false) := Lib.hid (fun h => by rw [HR0.out, tgPre_no P (k + 1) h n (by omega)]; simp)
   clear hV hpb hs3 hk0
   have hkp : k - 1 < P.length := by omega
   cases V
   case false =>
    have HF : Hid (R = false) := Lib.hid (HNO.out (by rw [HPB.out]; simp))
    go_wp2_with (first | ((with_reducible apply (wpl_guard (op := .load _ _))); exact rfl) | ((with_reducible apply (wpl_guard (op := .fieldAddr _ _ _))); exact rfl) | ((with_reducible apply wpl_loadcellN); exact rfl; infer_instance; exact rfl))
    refine wp_region_N (nowhere) (by kernel_rfl) (fun wd _ _ => ?_)
    refine' tk 0 _ rfl (by kernel_rfl) (by kernel_rfl) (by kernel_rfl) (fun _ _ _ h => h) (yo (by rfl) fun w' _ => ?_) inferInstance ?_
    rotate_left
    · (go_simp; try with_reducible rfl)
    try simp only [Act.put, sA, sB, sC]
    refine' tk 1 _ rfl (by kernel_rfl) (by kernel_rfl) (by kernel_rfl) (fun _ _ _ h => h) (yo (by rfl) fun w' _ => ?_) inferInstance ?_
    rotate_left
    · ((apply ev_loadcellN); exact rfl; infer_instance; infer_instance; exact rfl)
    try simp only [Act.put, sA, sB, sC]
    refine' tk 2 _ rfl (by kernel_rfl) (by kernel_rfl) (by kernel_rfl) (fun _ _ _ h => h) (yo (by rfl) fun w' _ => ?_) inferInstance ?_
    rotate_left
    · (go_simp; try with_reducible rfl)
    try simp only [Act.put, sA, sB, sC]
    refine' tk 3 _ rfl (by kernel_rfl) (by kernel_rfl) (by kernel_rfl) (fun _ _ _ h => h) (yo (by rfl) fun w' _ => ?_) inferInstance ?_
    rotate_left
    · ((apply (ev_indexE (α := TargetR) (t := 40))); exact rfl; exact rfl; infer_instance; infer_instance; (first | (with_reducible assumption) | omega | (focus (simp; done)) | (focus (simp; omega; done)) | decide); exact rfl; (decide); (first | (with_reducible assumption) | omega | (focus (simp; done)) | (focus (simp; omega; done)) | decide))
    try simp only [Act.put, sA, sB, sC]
    refine' tk 4 _ rfl (by kernel_rfl) (by kernel_rfl) (by kernel_rfl) (fun _ _ _ h => h) (yo (by rfl) fun w' _ => ?_) inferInstance ?_
    rotate_left
    · ((apply (ev_loadE (α := TargetR) (t := 42))); infer_instance; exact rfl; infer_instance; exact rfl; (decide); (first | (with_reducible assumption) | omega | (focus (simp; done)) | (focus (simp; omega; done)) | decide))
    try simp only [Act.put, sA, sB, sC]
    refine goH (i := 5) (by kernel_rfl) rfl (fun K_ hK_ => ?_)
    go_simp
    refine (rIsTarget_calls (gt P k) _ HS3.out).mono ?_
    rw [← HV.out]
    rintro e w5 ⟨rfl, _⟩
    refine hK_.out _ _ inferInstance (fun _ => ?_)
    clear hK_ K_
    try simp only [Act.put, sA, sB, sC]
    refine' tk 6 _ rfl (by kernel_rfl) (by kernel_rfl) (by kernel_rfl) (fun _ _ _ h => h) (yo (by rfl) fun w' _ => ?_) inferInstance ?_
    rotate_left
    · (go_simp; try with_reducible rfl)
    try simp only [Act.put, sA, sB, sC]
    refine' tk 7 _ rfl (by kernel_rfl) (by kernel_rfl) (by kernel_rfl) (fun _ _ _ h => h) (yo (by rfl) fun w' _ => ?_) inferInstance ?_
    rotate_left
    · (go_simp; try with_reducible rfl)
    try simp only [Act.put, sA, sB, sC]
    refine takeH (i := 8) (v := undef) rfl (by kernel_rfl) (by kernel_rfl) (by kernel_rfl) (fun _ _ _ h => h) (Or.inr ⟨by rfl, rfl⟩) inferInstance ?_
    try simp only [Act.put, sA, sB, sC]
    refine takeH (i := 9) (v := undef) rfl (by kernel_rfl) (by kernel_rfl) (by kernel_rfl) (fun _ _ _ h => h) (Or.inr ⟨by rfl, rfl⟩) inferInstance ?_
    try simp only [Act.put, sA, sB, sC]
    try simp only [FS1.out]
    refine takeH (i := 10) (v := undef) rfl (by kernel_rfl) (by kernel_rfl) (by kernel_rfl) (fun _ _ _ h => h) (Or.inr ⟨by rfl, rfl⟩) inferInstance ?_
    try simp only [Act.put, sA, sB, sC]
    refine takeH (i := 11) (v := undef) rfl (by kernel_rfl) (by kernel_rfl) (by kernel_rfl) (fun _ _ _ h => h) (Or.inr ⟨by rfl, rfl⟩) inferInstance ?_
    try simp only [Act.put, sA, sB, sC]
    refine takeH (i := 12) (v := undef) rfl (by kernel_rfl) (by kernel_rfl) (by kernel_rfl) (fun _ _ _ h => h) (Or.inr ⟨by rfl, rfl⟩) inferInstance ?_
    try simp only [Act.put, sA, sB, sC]
    refine takeH (i := 13) (v := undef) rfl (by kernel_rfl) (by kernel_rfl) (by kernel_rfl) (fun _ _ _ h => h) (Or.inr ⟨by rfl, rfl⟩) inferInstance ?_
    try simp only [Act.put, sA, sB, sC]
    refine takeH (i := 14) (v := undef) rfl (by kernel_rfl) (by kernel_rfl) (by kernel_rfl) (fun _ _ _ h => h) (Or.inr ⟨by rfl, rfl⟩) inferInstance ?_
    try simp only [Act.put, sA, sB, sC]
    try simp only [FS1.out]
    refine takeH (i := 15) (v := undef) rfl (by kernel_rfl) (by kernel_rfl) (by kernel_rfl) (fun _ _ _ h => h) (Or.inr ⟨by rfl, rfl⟩) inferInstance ?_
    try simp only [Act.put, sA, sB, sC]
    refine takeH (i := 16) (v := undef) rfl (by kernel_rfl) (by kernel_rfl) (by kernel_rfl) (fun _ _ _ h => h) (Or.inr ⟨by rfl, rfl⟩) inferInstance ?_
    try simp only [Act.put, sA, sB, sC]
    refine takeH (i := 17) (v := undef) rfl (by kernel_rfl) (by kernel_rfl) (by kernel_rfl) (fun _ _ _ h => h) (Or.inr ⟨by rfl, rfl⟩) inferInstance ?_
    try simp only [Act.put, sA, sB, sC]
    refine takeH (i := 18) (v := undef) rfl (by kernel_rfl) (by kernel_rfl) (by kernel_rfl) (fun _ _ _ h => h) (Or.inr ⟨by rfl, rfl⟩) inferInstance ?_
    try simp only [Act.put, sA, sB, sC]
    refine takeH (i := 19) (v := undef) rfl (by kernel_rfl) (by kernel_rfl) (by kernel_rfl) (fun _ _ _ h => h) (Or.inr ⟨by rfl, rfl⟩) inferInstance ?_
    try simp only [Act.put, sA, sB, sC]
    refine takeH (i := 20) (v := undef) rfl (by kernel_rfl) (by kernel_rfl) (by kernel_rfl) (fun _ _ _ h => h) (Or.inr ⟨by rfl, rfl⟩) inferInstance ?_
    try simp only [Act.put, sA, sB, sC]
    refine takeH (i := 21) (v := undef) rfl (by kernel_rfl) (by kernel_rfl) (by kernel_rfl) (fun _ _ _ h => h) (Or.inr ⟨by rfl, rfl⟩) inferInstance ?_
    try simp only [Act.put, sA, sB, sC]
    refine takeH (i := 22) (v := undef) rfl (by kernel_rfl) (by kernel_rfl) (by kernel_rfl) (fun _ _ _ h => h) (Or.inr ⟨by rfl, rfl⟩) inferInstance ?_
    try simp only [Act.put, sA, sB, sC]
    refine takeH (i := 23) (v := undef) rfl (by kernel_rfl) (by kernel_rfl) (by kernel_rfl) (fun _ _ _ h => h) (Or.inr ⟨by rfl, rfl⟩) inferInstance ?_
    try simp only [Act.put, sA, sB, sC]
    refine takeH (i := 24) (v := undef) rfl (by kernel_rfl) (by kernel_rfl) (by kernel_rfl) (fun _ _ _ h => h) (Or.inr ⟨by rfl, rfl⟩) inferInstance ?_
    try simp only [Act.put, sA, sB, sC]
    refine' tk 25 _ rfl (by kernel_rfl) (by kernel_rfl) (by kernel_rfl) (fun _ _ _ h => h) (yo (by rfl) fun w' _ => ?_) inferInstance ?_
    rotate_left
    · (go_simp; try with_reducible rfl)
    try simp only [Act.put, sA, sB, sC]
    refine wpAnyH_done (by kernel_rfl) ?_ _
    go_wp2_with fail
    go_ret
    rw [HF.out]
    exact ⟨rfl, stepN⟩
   by_cases h0 : k = 0
   · have hkI : ¬ 0 < (k : Int) := by omega
     have hkN : ¬ 0 < k := by omega
     have HT : Hid (tgPre P (k + 1) = true) := Lib.hid (by rw [HPB.out, decide_eq_true h0]; simp)
     clear h0
     go_wp2_with (first | ((with_reducible apply (wpl_guard (op := .load _ _))); exact rfl) | ((with_reducible apply (wpl_guard (op := .fieldAddr _ _ _))); exact rfl) | ((with_reducible apply wpl_loadcellN); exact rfl; infer_instance; exact rfl))
     refine wp_region_N (nowhere) (by kernel_rfl) (fun wd _ _ => ?_)
     refine' tk 0 _ rfl (by kernel_rfl) (by kernel_rfl) (by kernel_rfl) (fun _ _ _ h => h) (yo (by rfl) fun w' _ => ?_) inferInstance ?_
     rotate_left
     · (go_simp; try with_reducible rfl)
     try simp only [Act.put, sA, sB, sC]
     refine' tk 1 _ rfl (by kernel_rfl) (by kernel_rfl) (by kernel_rfl) (fun _ _ _ h => h) (yo (by rfl) fun w' _ => ?_) inferInstance ?_
     rotate_left
     · ((apply ev_loadcellN); exact rfl; infer_instance; infer_instance; exact rfl)
     try simp only [Act.put, sA, sB, sC]
     refine' tk 2 _ rfl (by kernel_rfl) (by kernel_rfl) (by kernel_rfl) (fun _ _ _ h => h) (yo (by rfl) fun w' _ => ?_) inferInstance ?_
     rotate_left
     · (go_simp; try with_reducible rfl)
     try simp only [Act.put, sA, sB, sC]
     refine' tk 3 _ rfl (by kernel_rfl) (by kernel_rfl) (by kernel_rfl) (fun _ _ _ h => h) (yo (by rfl) fun w' _ => ?_) inferInstance ?_
     rotate_left
     · ((apply (ev_indexE (α := TargetR) (t := 40))); exact rfl; exact rfl; infer_instance; infer_instance; (first | (with_reducible assumption) | omega | (focus (simp; done)) | (focus (simp; omega; done)) | decide); exact rfl; (decide); (first | (with_reducible assumption) | omega | (focus (simp; done)) | (focus (simp; omega; done)) | decide))
     try simp only [Act.put, sA, sB, sC]
     refine' tk 4 _ rfl (by kernel_rfl) (by kernel_rfl) (by kernel_rfl) (fun _ _ _ h => h) (yo (by rfl) fun w' _ => ?_) inferInstance ?_
     rotate_left
     · ((apply (ev_loadE (α := TargetR) (t := 42))); infer_instance; exact rfl; infer_instance; exact rfl; (decide); (first | (with_reducible assumption) | omega | (focus (simp; done)) | (focus (simp; omega; done)) | decide))
     try simp only [Act.put, sA, sB, sC]
     refine goH (i := 5) (by kernel_rfl) rfl (fun K_ hK_ => ?_)
     go_simp
     refine (rIsTarget_calls (gt P k) _ HS3.out).mono ?_
     rw [← HV.out]
     rintro e w5 ⟨rfl, _⟩
     refine hK_.out _ _ inferInstance (fun _ => ?_)
     clear hK_ K_
     try simp only [Act.put, sA, sB, sC]
     refine' tk 6 _ rfl (by kernel_rfl) (by kernel_rfl) (by kernel_rfl) (fun _ _ _ h => h) (yo (by rfl) fun w' _ => ?_) inferInstance ?_
     rotate_left
     · (go_simp; try with_reducible rfl)
     try simp only [Act.put, sA, sB, sC]
     refine' tk 7 _ rfl (by kernel_rfl) (by kernel_rfl) (by kernel_rfl) (fun _ _ _ h => h) (yo (by rfl) fun w' _ => ?_) inferInstance ?_
     rotate_left
     · (go_simp; try with_reducible rfl)
     try simp only [Act.put, sA, sB, sC]
     refine' tk 8 _ rfl (by kernel_rfl) (by kernel_rfl) (by kernel_rfl) (fun _ _ _ h => h) (yo (by rfl) fun w' _ => ?_) inferInstance ?_
     rotate_left
     · (go_simp; try with_reducible rfl)
     try simp only [Act.put, sA, sB, sC]
     refine' tk 9 _ rfl (by kernel_rfl) (by kernel_rfl) (by kernel_rfl) (fun _ _ _ h => h) (yo (by rfl) fun w' _ => ?_) inferInstance ?_
     rotate_left
     · (go_simp; try with_reducible rfl)
     try simp only [Act.put, sA, sB, sC]
     try simp only [FS1.out]
     refine' tk 10 _ rfl (by kernel_rfl) (by kernel_rfl) (by kernel_rfl) (fun _ _ _ h => h) (yo (by rfl) fun w' _ => ?_) inferInstance ?_
     rotate_left
     · (go_simp; try with_reducible rfl)
     try simp only [Act.put, sA, sB, sC]
     refine takeH (i := 11) (v := undef) rfl (by kernel_rfl) (by kernel_rfl) (by kernel_rfl) (fun _ _ _ h => h) (Or.inr ⟨by rfl, rfl⟩) inferInstance ?_
     try simp only [Act.put, sA, sB, sC]
     refine takeH (i := 12) (v := undef) rfl (by kernel_rfl) (by kernel_rfl) (by kernel_rfl) (fun _ _ _ h => h) (Or.inr ⟨by rfl, rfl⟩) inferInstance ?_
     try simp only [Act.put, sA, sB, sC]
     refine takeH (i := 13) (v := undef) rfl (by kernel_rfl) (by kernel_rfl) (by kernel_rfl) (fun _ _ _ h => h) (Or.inr ⟨by rfl, rfl⟩) inferInstance ?_
     try simp only [Act.put, sA, sB, sC]
     refine takeH (i := 14) (v := undef) rfl (by kernel_rfl) (by kernel_rfl) (by kernel_rfl) (fun _ _ _ h => h) (Or.inr ⟨by rfl, rfl⟩) inferInstance ?_
     try simp only [Act.put, sA, sB, sC]
     try simp only [FS1.out]
     refine takeH (i := 15) (v := undef) rfl (by kernel_rfl) (by kernel_rfl) (by kernel_rfl) (fun _ _ _ h => h) (Or.inr ⟨by rfl, rfl⟩) inferInstance ?_
     try simp only [Act.put, sA, sB, sC]
     refine takeH (i := 16) (v := undef) rfl (by kernel_rfl) (by kernel_rfl) (by kernel_rfl) (fun _ _ _ h => h) (Or.inr ⟨by rfl, rfl⟩) inferInstance ?_
     try simp only [Act.put, sA, sB, sC]
     refine takeH (i := 17) (v := undef) rfl (by kernel_rfl) (by kernel_rfl) (by kernel_rfl) (fun _ _ _ h => h) (Or.inr ⟨by rfl, rfl⟩) inferInstance ?_
     try simp only [Act.put, sA, sB, sC]
     refine takeH (i := 18) (v := undef) rfl (by kernel_rfl) (by kernel_rfl) (by kernel_rfl) (fun _ _ _ h => h) (Or.inr ⟨by rfl, rfl⟩) inferInstance ?_
     try simp only [Act.put, sA, sB, sC]
     refine takeH (i := 19) (v := undef) rfl (by kernel_rfl) (by kernel_rfl) (by kernel_rfl) (fun _ _ _ h => h) (Or.inr ⟨by rfl, rfl⟩) inferInstance ?_
     try simp only [Act.put, sA, sB, sC]
     refine takeH (i := 20) (v := undef) rfl (by kernel_rfl) (by kernel_rfl) (by kernel_rfl) (fun _ _ _ h => h) (Or.inr ⟨by rfl, rfl⟩) inferInstance ?_
     try simp only [Act.put, sA, sB, sC]
     refine takeH (i := 21) (v := undef) rfl (by kernel_rfl) (by kernel_rfl) (by kernel_rfl) (fun _ _ _ h => h) (Or.inr ⟨by rfl, rfl⟩) inferInstance ?_
     try simp only [Act.put, sA, sB, sC]
     refine takeH (i := 22) (v := undef) rfl (by kernel_rfl) (by kernel_rfl) (by kernel_rfl) (fun _ _ _ h => h) (Or.inr ⟨by rfl, rfl⟩) inferInstance ?_
     try simp only [Act.put, sA, sB, sC]
     refine takeH (i := 23) (v := undef) rfl (by kernel_rfl) (by kernel_rfl) (by kernel_rfl) (fun _ _ _ h => h) (Or.inr ⟨by rfl, rfl⟩) inferInstance ?_
     try simp only [Act.put, sA, sB, sC]
     refine' tk 24 _ rfl (by kernel_rfl) (by kernel_rfl) (by kernel_rfl) (fun _ _ _ h => h) (yo (by rfl) fun w' _ => ?_) inferInstance ?_
     rotate_left
     · (go_simp; try with_reducible rfl)
     try simp only [Act.put, sA, sB, sC]
     refine' tk 25 _ rfl (by kernel_rfl) (by kernel_rfl) (by kernel_rfl) (fun _ _ _ h => h) (yo (by rfl) fun w' _ => ?_) inferInstance ?_
     rotate_left
     · (go_simp; try with_reducible rfl)
     try simp only [Act.put, sA, sB, sC]
     refine wpAnyH_done (by kernel_rfl) ?_ _
     go_wp2_with fail
     exact ⟨⟨k + 1, by omega, fun _ => by omega, by go_num, HT, stepN, inferInstance⟩, by simp [intOf]; omega⟩
   have hkI : 0 < (k : Int) := by omega
   have hkN : 0 < k := by omega
   have FS1 := Lib.hid (show IntKind.i64.wrap ((k : Int) - 1) = ((k - 1 : Nat) : Int) by rw [IntKind.wrap_i64]; omega)
   obtain ⟨Z, hZ⟩ : ∃ Z, Z = tgLt (gt P (k - 1)) (gt P k) := ⟨_, rfl⟩
   have HZ : Hid (tgPre P (k + 1) = Z) := Lib.hid (by rw [HPB.out, decide_eq_false h0, hZ]; simp)
   have HZ0 := Lib.hid hZ
   clear hZ h0
   cases Z
   case false =>
    have HF : Hid (R = false) := Lib.hid (HNO.out HZ.out)
    go_wp2_with (first | ((with_reducible apply (wpl_guard (op := .load _ _))); exact rfl) | ((with_reducible apply (wpl_guard (op := .fieldAddr _ _ _))); exact rfl) | ((with_reducible apply wpl_loadcellN); exact rfl; infer_instance; exact rfl))
    refine wp_region_N (nowhere) (by kernel_rfl) (fun wd _ _ => ?_)
    refine' tk 0 _ rfl (by kernel_rfl) (by kernel_rfl) (by kernel_rfl) (fun _ _ _ h => h) (yo (by rfl) fun w' _ => ?_) inferInstance ?_
    rotate_left
    · (go_simp; try with_reducible rfl)
    try simp only [Act.put, sA, sB, sC]
    refine' tk 1 _ rfl (by kernel_rfl) (by kernel_rfl) (by kernel_rfl) (fun _ _ _ h => h) (yo (by rfl) fun w' _ => ?_) inferInstance ?_
    rotate_left
    · ((apply ev_loadcellN); exact rfl; infer_instance; infer_instance; exact rfl)
    try simp only [Act.put, sA, sB, sC]
    refine' tk 2 _ rfl (by kernel_rfl) (by kernel_rfl) (by kernel_rfl) (fun _ _ _ h => h) (yo (by rfl) fun w' _ => ?_) inferInstance ?_
    rotate_left
    · (go_simp; try with_reducible rfl)
    try simp only [Act.put, sA, sB, sC]
    refine' tk 3 _ rfl (by kernel_rfl) (by kernel_rfl) (by kernel_rfl) (fun _ _ _ h => h) (yo (by rfl) fun w' _ => ?_) inferInstance ?_
    rotate_left
    · ((apply (ev_indexE (α := TargetR) (t := 40))); exact rfl; exact rfl; infer_instance; infer_instance; (first | (with_reducible assumption) | omega | (focus (simp; done)) | (focus (simp; omega; done)) | decide); exact rfl; (decide); (first | (with_reducible assumption) | omega | (focus (simp; done)) | (focus (simp; omega; done)) | decide))
    try simp only [Act.put, sA, sB, sC]
    refine' tk 4 _ rfl (by kernel_rfl) (by kernel_rfl) (by kernel_rfl) (fun _ _ _ h => h) (yo (by rfl) fun w' _ => ?_) inferInstance ?_
    rotate_left
    · ((apply (ev_loadE (α := TargetR) (t := 42))); infer_instance; exact rfl; infer_instance; exact rfl; (decide); (first | (with_reducible assumption) | omega | (focus (simp; done)) | (focus (simp; omega; done)) | decide))
    try simp only [Act.put, sA, sB, sC]
    refine goH (i := 5) (by kernel_rfl) rfl (fun K_ hK_ => ?_)
    go_simp
    refine (rIsTarget_calls (gt P k) _ HS3.out).mono ?_
    rw [← HV.out]
    rintro e w5 ⟨rfl, _⟩
    refine hK_.out _ _ inferInstance (fun _ => ?_)
    clear hK_ K_
    try simp only [Act.put, sA, sB, sC]
    refine' tk 6 _ rfl (by kernel_rfl) (by kernel_rfl) (by kernel_rfl) (fun _ _ _ h => h) (yo (by rfl) fun w' _ => ?_) inferInstance ?_
    rotate_left
    · (go_simp; try with_reducible rfl)
    try simp only [Act.put, sA, sB, sC]
    refine' tk 7 _ rfl (by kernel_rfl) (by kernel_rfl) (by kernel_rfl) (fun _ _ _ h => h) (yo (by rfl) fun w' _ => ?_) inferInstance ?_
    rotate_left
    · (go_simp; try with_reducible rfl)
    try simp only [Act.put, sA, sB, sC]
    refine' tk 8 _ rfl (by kernel_rfl) (by kernel_rfl) (by kernel_rfl) (fun _ _ _ h => h) (yo (by rfl) fun w' _ => ?_) inferInstance ?_
    rotate_left
    · (go_simp; try with_reducible rfl)
    try simp only [Act.put, sA, sB, sC]
    refine' tk 9 _ rfl (by kernel_rfl) (by kernel_rfl) (by kernel_rfl) (fun _ _ _ h => h) (yo (by rfl) fun w' _ => ?_) inferInstance ?_
    rotate_left
    · (go_simp; try with_reducible rfl)
    try simp only [Act.put, sA, sB, sC]
    try simp only [FS1.out]
    refine' tk 10 _ rfl (by kernel_rfl) (by kernel_rfl) (by kernel_rfl) (fun _ _ _ h => h) (yo (by rfl) fun w' _ => ?_) inferInstance ?_
    rotate_left
    · (go_simp; try with_reducible rfl)
    try simp only [Act.put, sA, sB, sC]
    refine' tk 11 _ rfl (by kernel_rfl) (by kernel_rfl) (by kernel_rfl) (fun _ _ _ h => h) (yo (by rfl) fun w' _ => ?_) inferInstance ?_
    rotate_left
    · (go_simp; try with_reducible rfl)
    try simp only [Act.put, sA, sB, sC]
    refine' tk 12 _ rfl (by kernel_rfl) (by kernel_rfl) (by kernel_rfl) (fun _ _ _ h => h) (yo (by rfl) fun w' _ => ?_) inferInstance ?_
    rotate_left
    · ((apply ev_loadcellN); exact rfl; infer_instance; infer_instance; exact rfl)
    try simp only [Act.put, sA, sB, sC]
    refine' tk 13 _ rfl (by kernel_rfl) (by kernel_rfl) (by kernel_rfl) (fun _ _ _ h => h) (yo (by rfl) fun w' _ => ?_) inferInstance ?_
    rotate_left
    · (go_simp; try with_reducible rfl)
    try simp only [Act.put, sA, sB, sC]
    refine' tk 14 _ rfl (by kernel_rfl) (by kernel_rfl) (by kernel_rfl) (fun _ _ _ h => h) (yo (by rfl) fun w' _ => ?_) inferInstance ?_
    rotate_left
    · (go_simp; try with_reducible rfl)
    try simp only [Act.put, sA, sB, sC]
    try simp only [FS1.out]
    refine' tk 15 _ rfl (by kernel_rfl) (by kernel_rfl) (by kernel_rfl) (fun _ _ _ h => h) (yo (by rfl) fun w' _ => ?_) inferInstance ?_
    rotate_left
    · ((apply (ev_indexE (α := TargetR) (t := 40))); exact rfl; exact rfl; infer_instance; infer_instance; (first | (with_reducible assumption) | omega | (focus (simp; done)) | (focus (simp; omega; done)) | decide); exact rfl; (decide); (first | (with_reducible assumption) | omega | (focus (simp; done)) | (focus (simp; omega; done)) | decide))
    try simp only [Act.put, sA, sB, sC]
    refine' tk 16 _ rfl (by kernel_rfl) (by kernel_rfl) (by kernel_rfl) (fun _ _ _ h => h) (yo (by rfl) fun w' _ => ?_) inferInstance ?_
    rotate_left
    · ((apply (ev_loadE (α := TargetR) (t := 42))); infer_instance; exact rfl; infer_instance; exact rfl; (decide); (first | (with_reducible assumption) | omega | (focus (simp; done)) | (focus (simp; omega; done)) | decide))
    try simp only [Act.put, sA, sB, sC]
    refine' tk 17 _ rfl (by kernel_rfl) (by kernel_rfl) (by kernel_rfl) (fun _ _ _ h => h) (yo (by rfl) fun w' _ => ?_) inferInstance ?_
    rotate_left
    · (go_simp; try with_reducible rfl)
    try simp only [Act.put, sA, sB, sC]
    refine' tk 18 _ rfl (by kernel_rfl) (by kernel_rfl) (by kernel_rfl) (fun _ _ _ h => h) (yo (by rfl) fun w' _ => ?_) inferInstance ?_
    rotate_left
    · ((apply ev_loadcellN); exact rfl; infer_instance; infer_instance; exact rfl)
    try simp only [Act.put, sA, sB, sC]
    refine' tk 19 _ rfl (by kernel_rfl) (by kernel_rfl) (by kernel_rfl) (fun _ _ _ h => h) (yo (by rfl) fun w' _ => ?_) inferInstance ?_
    rotate_left
    · (go_simp; try with_reducible rfl)
    try simp only [Act.put, sA, sB, sC]
    refine' tk 20 _ rfl (by kernel_rfl) (by kernel_rfl) (by kernel_rfl) (fun _ _ _ h => h) (yo (by rfl) fun w' _ => ?_) inferInstance ?_
    rotate_left
    · ((apply (ev_indexE (α := TargetR) (t := 40))); exact rfl; exact rfl; infer_instance; infer_instance; (first | (with_reducible assumption) | omega | (focus (simp; done)) | (focus (simp; omega; done)) | decide); exact rfl; (decide); (first | (with_reducible assumption) | omega | (focus (simp; done)) | (focus (simp; omega; done)) | decide))
    try simp only [Act.put, sA, sB, sC]
    refine' tk 21 _ rfl (by kernel_rfl) (by kernel_rfl) (by kernel_rfl) (fun _ _ _ h => h) (yo (by rfl) fun w' _ => ?_) inferInstance ?_
    rotate_left
    · ((apply (ev_loadE (α := TargetR) (t := 42))); infer_instance; exact rfl; infer_instance; exact rfl; (decide); (first | (with_reducible assumption) | omega | (focus (simp; done)) | (focus (simp; omega; done)) | decide))
    try simp only [Act.put, sA, sB, sC]
    refine goH (i := 22) (by kernel_rfl) rfl (fun K_ hK_ => ?_)
    go_simp
    refine (rBefore_calls (gt P (k - 1)) (gt P k) _).mono ?_
    rw [← HZ0.out]
    rintro e w6 ⟨rfl, _⟩
    refine hK_.out _ _ inferInstance (fun _ => ?_)
    clear hK_ K_
    try simp only [Act.put, sA, sB, sC]
    refine' tk 23 _ rfl (by kernel_rfl) (by kernel_rfl) (by kernel_rfl) (fun _ _ _ h => h) (yo (by rfl) fun w' _ => ?_) inferInstance ?_
    rotate_left
    · (go_simp; try with_reducible rfl)
    try simp only [Act.put, sA, sB, sC]
    refine' tk 24 _ rfl (by kernel_rfl) (by kernel_rfl) (by kernel_rfl) (fun _ _ _ h => h) (yo (by rfl) fun w' _ => ?_) inferInstance ?_
    rotate_left
    · (go_simp; try with_reducible rfl)
    try simp only [Act.put, sA, sB, sC]
    refine' tk 25 _ rfl (by kernel_rfl) (by kernel_rfl) (by kernel_rfl) (fun _ _ _ h => h) (yo (by rfl) fun w' _ => ?_) inferInstance ?_
    rotate_left
    · (go_simp; try with_reducible rfl)
    try simp only [Act.put, sA, sB, sC]
    refine wpAnyH_done (by kernel_rfl) ?_ _
    go_wp2_with fail
    go_ret
    rw [HF.out]
    exact ⟨rfl, stepN⟩
   case true =>
    have HT : Hid (tgPre P (k + 1) = true) := Lib.hid HZ.out
    go_wp2_with (first | ((with_reducible apply (wpl_guard (op := .load _ _))); exact rfl) | ((with_reducible apply (wpl_guard (op := .fieldAddr _ _ _))); exact rfl) | ((with_reducible apply wpl_loadcellN); exact rfl; infer_instance; exact rfl))
    refine wp_region_N (nowhere) (by kernel_rfl) (fun wd _ _ => ?_)
    refine' tk 0 _ rfl (by kernel_rfl) (by kernel_rfl) (by kernel_rfl) (fun _ _ _ h => h) (yo (by rfl) fun w' _ => ?_) inferInstance ?_
    rotate_left
    · (go_simp; try with_reducible rfl)
    try simp only [Act.put, sA, sB, sC]
    refine' tk 1 _ rfl (by kernel_rfl) (by kernel_rfl) (by kernel_rfl) (fun _ _ _ h => h) (yo (by rfl) fun w' _ => ?_) inferInstance ?_
    rotate_left
    · ((apply ev_loadcellN); exact rfl; infer_instance; infer_instance; exact rfl)
    try simp only [Act.put, sA, sB, sC]
    refine' tk 2 _ rfl (by kernel_rfl) (by kernel_rfl) (by kernel_rfl) (fun _ _ _ h => h) (yo (by rfl) fun w' _ => ?_) inferInstance ?_
    rotate_left
    · (go_simp; try with_reducible rfl)
    try simp only [Act.put, sA, sB, sC]
    refine' tk 3 _ rfl (by kernel_rfl) (by kernel_rfl) (by kernel_rfl) (fun _ _ _ h => h) (yo (by rfl) fun w' _ => ?_) inferInstance ?_
    rotate_left
    · ((apply (ev_indexE (α := TargetR) (t := 40))); exact rfl; exact rfl; infer_instance; infer_instance; (first | (with_reducible assumption) | omega | (focus (simp; done)) | (focus (simp; omega; done)) | decide); exact rfl; (decide); (first | (with_reducible assumption) | omega | (focus (simp; done)) | (focus (simp; omega; done)) | decide))
    try simp only [Act.put, sA, sB, sC]
    refine' tk 4 _ rfl (by kernel_rfl) (by kernel_rfl) (by kernel_rfl) (fun _ _ _ h => h) (yo (by rfl) fun w' _ => ?_) inferInstance ?_
    rotate_left
    · ((apply (ev_loadE (α := TargetR) (t := 42))); infer_instance; exact rfl; infer_instance; exact rfl; (decide); (first | (with_reducible assumption) | omega | (focus (simp; done)) | (focus (simp; omega; done)) | decide))
    try simp only [Act.put, sA, sB, sC]
    refine goH (i := 5) (by kernel_rfl) rfl (fun K_ hK_ => ?_)
    go_simp
    refine (rIsTarget_calls (gt P k) _ HS3.out).mono ?_
    rw [← HV.out]
    rintro e w5 ⟨rfl, _⟩
    refine hK_.out _ _ inferInstance (fun _ => ?_)
    clear hK_ K_
    try simp only [Act.put, sA, sB, sC]
    refine' tk 6 _ rfl (by kernel_rfl) (by kernel_rfl) (by kernel_rfl) (fun _ _ _ h => h) (yo (by rfl) fun w' _ => ?_) inferInstance ?_
    rotate_left
    · (go_simp; try with_reducible rfl)
    try simp only [Act.put, sA, sB, sC]
    refine' tk 7 _ rfl (by kernel_rfl) (by kernel_rfl) (by kernel_rfl) (fun _ _ _ h => h) (yo (by rfl) fun w' _ => ?_) inferInstance ?_
    rotate_left
    · (go_simp; try with_reducible rfl)
    try simp only [Act.put, sA, sB, sC]
    refine' tk 8 _ rfl (by kernel_rfl) (by kernel_rfl) (by kernel_rfl) (fun _ _ _ h => h) (yo (by rfl) fun w' _ => ?_) inferInstance ?_
    rotate_left
    · (go_simp; try with_reducible rfl)
    try simp only [Act.put, sA, sB, sC]
    refine' tk 9 _ rfl (by kernel_rfl) (by kernel_rfl) (by kernel_rfl) (fun _ _ _ h => h) (yo (by rfl) fun w' _ => ?_) inferInstance ?_
    rotate_left
    · (go_simp; try with_reducible rfl)
    try simp only [Act.put, sA, sB, sC]
    try simp only [FS1.out]
    refine' tk 10 _ rfl (by kernel_rfl) (by kernel_rfl) (by kernel_rfl) (fun _ _ _ h => h) (yo (by rfl) fun w' _ => ?_) inferInstance ?_
    rotate_left
    · (go_simp; try with_reducible rfl)
    try simp only [Act.put, sA, sB, sC]
    refine' tk 11 _ rfl (by kernel_rfl) (by kernel_rfl) (by kernel_rfl) (fun _ _ _ h => h) (yo (by rfl) fun w' _ => ?_) inferInstance ?_
    rotate_left
    · (go_simp; try with_reducible rfl)
    try simp only [Act.put, sA, sB, sC]
    refine' tk 12 _ rfl (by kernel_rfl) (by kernel_rfl) (by kernel_rfl) (fun _ _ _ h => h) (yo (by rfl) fun w' _ => ?_) inferInstance ?_
    rotate_left
    · ((apply ev_loadcellN); exact rfl; infer_instance; infer_instance; exact rfl)
    try simp only [Act.put, sA, sB, sC]
    refine' tk 13 _ rfl (by kernel_rfl) (by kernel_rfl) (by kernel_rfl) (fun _ _ _ h => h) (yo (by rfl) fun w' _ => ?_) inferInstance ?_
    rotate_left
    · (go_simp; try with_reducible rfl)
    try simp only [Act.put, sA, sB, sC]
    refine' tk 14 _ rfl (by kernel_rfl) (by kernel_rfl) (by kernel_rfl) (fun _ _ _ h => h) (yo (by rfl) fun w' _ => ?_) inferInstance ?_
    rotate_left
    · (go_simp; try with_reducible rfl)
    try simp only [Act.put, sA, sB, sC]
    try simp only [FS1.out]
    refine' tk 15 _ rfl (by kernel_rfl) (by kernel_rfl) (by kernel_rfl) (fun _ _ _ h => h) (yo (by rfl) fun w' _ => ?_) inferInstance ?_
    rotate_left
    · ((apply (ev_indexE (α := TargetR) (t := 40))); exact rfl; exact rfl; infer_instance; infer_instance; (first | (with_reducible assumption) | omega | (focus (simp; done)) | (focus (simp; omega; done)) | decide); exact rfl; (decide); (first | (with_reducible assumption) | omega | (focus (simp; done)) | (focus (simp; omega; done)) | decide))
    try simp only [Act.put, sA, sB, sC]
    refine' tk 16 _ rfl (by kernel_rfl) (by kernel_rfl) (by kernel_rfl) (fun _ _ _ h => h) (yo (by rfl) fun w' _ => ?_) inferInstance ?_
    rotate_left
    · ((apply (ev_loadE (α := TargetR) (t := 42))); infer_instance; exact rfl; infer_instance; exact rfl; (decide); (first | (with_reducible assumption) | omega | (focus (simp; done)) | (focus (simp; omega; done)) | decide))
    try simp only [Act.put, sA, sB, sC]
    refine' tk 17 _ rfl (by kernel_rfl) (by kernel_rfl) (by kernel_rfl) (fun _ _ _ h => h) (yo (by rfl) fun w' _ => ?_) inferInstance ?_
    rotate_left
    · (go_simp; try with_reducible rfl)
    try simp only [Act.put, sA, sB, sC]
    refine' tk 18 _ rfl (by kernel_rfl) (by kernel_rfl) (by kernel_rfl) (fun _ _ _ h => h) (yo (by rfl) fun w' _ => ?_) inferInstance ?_
    rotate_left
    · ((apply ev_loadcellN); exact rfl; infer_instance; infer_instance; exact rfl)
    try simp only [Act.put, sA, sB, sC]
    refine' tk 19 _ rfl (by kernel_rfl) (by kernel_rfl) (by kernel_rfl) (fun _ _ _ h => h) (yo (by rfl) fun w' _ => ?_) inferInstance ?_
    rotate_left
    · (go_simp; try with_reducible rfl)
    try simp only [Act.put, sA, sB, sC]
    refine' tk 20 _ rfl (by kernel_rfl) (by kernel_rfl) (by kernel_rfl) (fun _ _ _ h => h) (yo (by rfl) fun w' _ => ?_) inferInstance ?_
    rotate_left
    · ((apply (ev_indexE (α := TargetR) (t := 40))); exact rfl; exact rfl; infer_instance; infer_instance; (first | (with_reducible assumption) | omega | (focus (simp; done)) | (focus (simp; omega; done)) | decide); exact rfl; (decide); (first | (with_reducible assumption) | omega | (focus (simp; done)) | (focus (simp; omega; done)) | decide))
    try simp only [Act.put, sA, sB, sC]
    refine' tk 21 _ rfl (by kernel_rfl) (by kernel_rfl) (by kernel_rfl) (fun _ _ _ h => h) (yo (by rfl) fun w' _ => ?_) inferInstance ?_
    rotate_left
    · ((apply (ev_loadE (α := TargetR) (t := 42))); infer_instance; exact rfl; infer_instance; exact rfl; (decide); (first | (with_reducible assumption) | omega | (focus (simp; done)) | (focus (simp; omega; done)) | decide))
    try simp only [Act.put, sA, sB, sC]
    refine goH (i := 22) (by kernel_rfl) rfl (fun K_ hK_ => ?_)
    go_simp
    refine (rBefore_calls (gt P (k - 1)) (gt P k) _).mono ?_
    rw [← HZ0.out]
    rintro e w6 ⟨rfl, _⟩
    refine hK_.out _ _ inferInstance (fun _ => ?_)
    clear hK_ K_
    try simp only [Act.put, sA, sB, sC]
    refine' tk 23 _ rfl (by kernel_rfl) (by kernel_rfl) (by kernel_rfl) (fun _ _ _ h => h) (yo (by rfl) fun w' _ => ?_) inferInstance ?_
    rotate_left
    · (go_simp; try with_reducible rfl)
    try simp only [Act.put, sA, sB, sC]
    refine' tk 24 _ rfl (by kernel_rfl) (by kernel_rfl) (by kernel_rfl) (fun _ _ _ h => h) (yo (by rfl) fun w' _ => ?_) inferInstance ?_
    rotate_left
    · (go_simp; try with_reducible rfl)
    try simp only [Act.put, sA, sB, sC]
    refine' tk 25 _ rfl (by kernel_rfl) (by kernel_rfl) (by kernel_rfl) (fun _ _ _ h => h) (yo (by rfl) fun w' _ => ?_) inferInstance ?_
    rotate_left
    · (go_simp; try with_reducible rfl)
    try simp only [Act.put, sA, sB, sC]
    refine wpAnyH_done (by kernel_rfl) ?_ _
    go_wp2_with fail
    exact ⟨⟨k + 1, by omega, fun _ => by omega, by go_num, HT, stepN, inferInstance⟩, by simp [intOf]; omega⟩
  have HPN : Hid (n ≤ 16 → tgPre P n = true) := Lib.hid (fun h => by
   have hkn : k = n := by omega
   rw [← hkn]
   exact HJ.out)
  have hcase : (¬ k < n) ∨ (k < n ∧ ¬ n ≤ 16) := by omega
  have HR1 : Hid (R = (nameL nm && verB v && numB e0 && decide (n ≤ 16) && decide (m ≤ 16) && dlPre D m)) := Lib.hid (by
   rw [HR0.out]
   by_cases h : n ≤ 16
   · rw [HPN.out h, decide_eq_true h, Bool.and_true]
   · rw [decide_eq_false h]; simp)
  clear hlt hk0 HPN HJ
  rcases hcase with hlt | ⟨hlt, h16⟩
  focus
   have hltI : ¬ (k : Int) < n := by omega
   go_wp2_with (first | go_big_skip | ((with_reducible apply wpl_loadcellN); exact rfl; infer_instance; exact rfl))
  rotate_left
  focus
   have hltI : (k : Int) < n := by omega
   have h16I : ¬ (n : Int) ≤ 16 := by omega
   clear h16
   go_wp2_with (first | ((with_reducible apply (wpl_guard (op := .load _ _))); exact rfl) | ((with_reducible apply (wpl_guard (op := .fieldAddr _ _ _))); exact rfl) | ((with_reducible apply wpl_loadcellN); exact rfl; infer_instance; exact rfl))
  rotate_left
  all_goals
   clear hltI hlt
   try clear h16I
   generalize wr = w1 at *
   go_loopw [4] (fun iv wr => ∃ i : Nat, i ≤ m ∧ (16 < m → i = 0) ∧ iv = .int .i64 (i : Int) ∧ Hid (dlPre D i = true) ∧ Step nowhere w wr ∧ HB wr zt 64 #[.string (strL nm), .int .i64 v, .int .i64 e0, .slice A n c, .slice C m d]) (fun iv _ => m - (intOf iv).toNat)
   case atStart => exact ⟨0, Nat.zero_le _, fun _ => rfl, rfl, Lib.hid rfl, st, ht⟩
   case round =>
    clear st ht nr hrw
    obtain ⟨i, hi, hi0, rfl, HJ, st, ht⟩ := hrel
    have nr : Nw w wr := ⟨st.chg⟩
    have hqw : HR wr C (cellsOf D) := ⟨HQQ.out.later st.chg⟩
    have hm : D.length = m := HM.out
    by_cases hlt : i < m ∧ m ≤ 16
    focus
     obtain ⟨hlt, h16⟩ := hlt
     have hltI : (i : Int) < m := by omega
     have h16I : (m : Int) ≤ 16 := by omega
     have hil : i < D.length := by omega
     have HDi := Lib.hid (HDL.out _ (gt_mem D i hil))
     have hszl : (strL (gt D i).l).size ≤ 9223372036854775807 := by rw [strL_sizeF]; exact HDi.out.2.1
     have hszp : (strL (gt D i).pre).size ≤ 9223372036854775807 := by rw [strL_sizeF]; exact HDi.out.2.2
     have HSL := Lib.hid hszl
     have HSP := Lib.hid hszp
     have hsz5 : (RowC.enc (gt D i)).toArray.size = 5 := rfl
     have hone5 := enc_one (gt D i)
     obtain ⟨V1, hV1⟩ : ∃ V, V = nameL (gt D i).l := ⟨_, rfl⟩
     obtain ⟨V2, hV2⟩ : ∃ V, V = isB (gt D i).k.l (gt D i).k.need := ⟨_, rfl⟩
     obtain ⟨V3, hV3⟩ : ∃ V, V = nameL (gt D i).pre := ⟨_, rfl⟩
     have HV1 := Lib.hid hV1
     have HV2 := Lib.hid hV2
     have HV3 := Lib.hid hV3
     have hpb : dlPre D (i + 1) = (V1 && V2 && ((gt D i).pre.isEmpty || V3) && dlFree D i i) := by rw [dlPre, HJ.out, Bool.true_and, dlOk, nameE, ← hV1, ← hV2, ← hV3]
     have HPB := Lib.hid hpb
     have HNO : Hid (dlPre D (i + 1) = false → R = false) := Lib.hid (fun h => by rw [HR1.out, dlPre_no D (i + 1) h m (by omega)]; simp)
     have hpre : (strL (gt D i).pre).toList.isEmpty = (gt D i).pre.isEmpty := by rw [strL_list]
     clear hV1 hV2 hV3 hpb hi0 hszl hszp h16 HJ
     cases V1
     case false =>
      have HF : Hid (R = false) := Lib.hid (HNO.out (by rw [HPB.out]; simp))
      go_wp2_with (first | ((with_reducible apply (wpl_indexE (α := DeleR) (t := 62))); exact rfl; exact rfl; infer_instance; infer_instance; (first | (with_reducible assumption) | omega); exact rfl; (decide); (first | (with_reducible assumption) | omega)) | ((with_reducible apply (wpl_loadE (α := DeleR) (t := 115))); infer_instance; exact rfl; infer_instance; exact rfl; (decide); (first | (with_reducible assumption) | omega)) | ((with_reducible apply (wpl_alloc (dst := some 5))); intro z5 wz5 _ _ _) | ((with_reducible apply (wpl_guard (op := .load _ _))); exact rfl) | ((with_reducible apply (wpl_guard (op := .fieldAddr _ _ _))); exact rfl) | ((with_reducible apply wpl_loadcellN); exact rfl; infer_instance; exact rfl) | ((with_reducible apply wpl_storerow); exact rfl; exact rfl; infer_instance; infer_instance; (first | (with_reducible assumption) | (with_reducible exact H32.size _) | (with_reducible exact enc_sz _ rfl) | kernel_rfl); (first | (with_reducible assumption) | (with_reducible exact H32.size _) | (with_reducible exact enc_sz _ rfl) | kernel_rfl); (first | (with_reducible exact u8s_one _) | (with_reducible assumption) | (with_reducible exact enc_one _) | kernel_rfl); intro ws _ _))
      refine (rName_calls (strL (gt D i).l) (gt D i).l rfl HSL.out _).mono ?_
      rw [← HV1.out]
      rintro e w6 ⟨rfl, _⟩
      go_wp2_with (first | go_big_skip)
      go_ret
      rw [HF.out]
      exact ⟨rfl, stepN⟩
     cases V2
     case false =>
      have HF : Hid (R = false) := Lib.hid (HNO.out (by rw [HPB.out]; simp))
      go_wp2_with (first | ((with_reducible apply (wpl_indexE (α := DeleR) (t := 62))); exact rfl; exact rfl; infer_instance; infer_instance; (first | (with_reducible assumption) | omega); exact rfl; (decide); (first | (with_reducible assumption) | omega)) | ((with_reducible apply (wpl_loadE (α := DeleR) (t := 115))); infer_instance; exact rfl; infer_instance; exact rfl; (decide); (first | (with_reducible assumption) | omega)) | ((with_reducible apply (wpl_alloc (dst := some 5))); intro z5 wz5 _ _ _) | ((with_reducible apply (wpl_guard (op := .load _ _))); exact rfl) | ((with_reducible apply (wpl_guard (op := .fieldAddr _ _ _))); exact rfl) | ((with_reducible apply wpl_loadcellN); exact rfl; infer_instance; exact rfl) | ((with_reducible apply wpl_storerow); exact rfl; exact rfl; infer_instance; infer_instance; (first | (with_reducible assumption) | (with_reducible exact H32.size _) | (with_reducible exact enc_sz _ rfl) | kernel_rfl); (first | (with_reducible assumption) | (with_reducible exact H32.size _) | (with_reducible exact enc_sz _ rfl) | kernel_rfl); (first | (with_reducible exact u8s_one _) | (with_reducible assumption) | (with_reducible exact enc_one _) | kernel_rfl); intro ws _ _))
      refine (rName_calls (strL (gt D i).l) (gt D i).l rfl HSL.out _).mono ?_
      rw [← HV1.out]
      rintro e w6 ⟨rfl, _⟩
      go_wp2_with (first | ((with_reducible apply (wpl_loadpart (g := z5) (k := 1) (n := 2) (tb := 115) (cs := (RowC.enc (gt D i)).toArray) (vs := [.slice (gt D i).k.A (gt D i).k.n (gt D i).k.c, .int .i64 (gt D i).k.need]))); exact rfl; infer_instance; infer_instance; exact (by decide); exact rfl; exact rfl) | ((with_reducible apply (wpl_guard (op := .load _ _))); exact rfl) | ((with_reducible apply (wpl_guard (op := .fieldAddr _ _ _))); exact rfl))
      have hr6 : HR w6 (gt D i).k.A (cellsOf (gt D i).k.l) := ⟨HDi.out.1.rd.later (stepN (w0 := w)).chg⟩
      refine (isKeys_calls (l := (gt D i).k.l) (gt D i).k.need HDi.out.1.len HDi.out.1.le).mono ?_
      rw [← HV2.out]
      rintro e w7 ⟨rfl, _⟩
      go_wp2_with (first | go_big_skip)
      go_ret
      rw [HF.out]
      exact ⟨rfl, stepN⟩
     cases hpe : (gt D i).pre.isEmpty
     focus
      rw [hpe] at hpre
      cases V3
      case false =>
       have HF : Hid (R = false) := Lib.hid (HNO.out (by rw [HPB.out, hpe]; simp))
       clear hpe
       go_wp2_with (first | ((with_reducible apply (wpl_indexE (α := DeleR) (t := 62))); exact rfl; exact rfl; infer_instance; infer_instance; (first | (with_reducible assumption) | omega); exact rfl; (decide); (first | (with_reducible assumption) | omega)) | ((with_reducible apply (wpl_loadE (α := DeleR) (t := 115))); infer_instance; exact rfl; infer_instance; exact rfl; (decide); (first | (with_reducible assumption) | omega)) | ((with_reducible apply (wpl_alloc (dst := some 5))); intro z5 wz5 _ _ _) | ((with_reducible apply (wpl_guard (op := .load _ _))); exact rfl) | ((with_reducible apply (wpl_guard (op := .fieldAddr _ _ _))); exact rfl) | ((with_reducible apply wpl_loadcellN); exact rfl; infer_instance; exact rfl) | ((with_reducible apply wpl_storerow); exact rfl; exact rfl; infer_instance; infer_instance; (first | (with_reducible assumption) | (with_reducible exact H32.size _) | (with_reducible exact enc_sz _ rfl) | kernel_rfl); (first | (with_reducible assumption) | (with_reducible exact H32.size _) | (with_reducible exact enc_sz _ rfl) | kernel_rfl); (first | (with_reducible exact u8s_one _) | (with_reducible assumption) | (with_reducible exact enc_one _) | kernel_rfl); intro ws _ _))
       refine (rName_calls (strL (gt D i).l) (gt D i).l rfl HSL.out _).mono ?_
       rw [← HV1.out]
       rintro e w6 ⟨rfl, _⟩
       go_wp2_with (first | ((with_reducible apply (wpl_loadpart (g := z5) (k := 1) (n := 2) (tb := 115) (cs := (RowC.enc (gt D i)).toArray) (vs := [.slice (gt D i).k.A (gt D i).k.n (gt D i).k.c, .int .i64 (gt D i).k.need]))); exact rfl; infer_instance; infer_instance; exact (by decide); exact rfl; exact rfl) | ((with_reducible apply (wpl_guard (op := .load _ _))); exact rfl) | ((with_reducible apply (wpl_guard (op := .fieldAddr _ _ _))); exact rfl))
       have hr6 : HR w6 (gt D i).k.A (cellsOf (gt D i).k.l) := ⟨HDi.out.1.rd.later (stepN (w0 := w)).chg⟩
       refine (isKeys_calls (l := (gt D i).k.l) (gt D i).k.need HDi.out.1.len HDi.out.1.le).mono ?_
       rw [← HV2.out]
       rintro e w7 ⟨rfl, _⟩
       go_wp2_with (first | ((with_reducible apply (wpl_guard (op := .load _ _))); exact rfl) | ((with_reducible apply (wpl_guard (op := .call _))); exact rfl) | ((with_reducible apply (wpl_guard (op := .fieldAddr _ _ _))); exact rfl) | ((with_reducible apply wpl_loadcellN); exact rfl; infer_instance; exact rfl))
       refine (rName_calls (strL (gt D i).pre) (gt D i).pre rfl HSP.out _).mono ?_
       rw [← HV3.out]
       rintro e w8 ⟨rfl, _⟩
       go_wp2_with fail
       go_ret
       rw [HF.out]
       exact ⟨rfl, stepN⟩
      have HPC : Hid (dlPre D (i + 1) = dlFree D i i) := Lib.hid (by rw [HPB.out, hpe]; simp)
      clear hpe HPB
      go_wp2_with (first | ((with_reducible apply (wpl_indexE (α := DeleR) (t := 62))); exact rfl; exact rfl; infer_instance; infer_instance; (first | (with_reducible assumption) | omega); exact rfl; (decide); (first | (with_reducible assumption) | omega)) | ((with_reducible apply (wpl_loadE (α := DeleR) (t := 115))); infer_instance; exact rfl; infer_instance; exact rfl; (decide); (first | (with_reducible assumption) | omega)) | ((with_reducible apply (wpl_alloc (dst := some 5))); intro z5 wz5 _ _ _) | ((with_reducible apply (wpl_guard (op := .load _ _))); exact rfl) | ((with_reducible apply (wpl_guard (op := .fieldAddr _ _ _))); exact rfl) | ((with_reducible apply wpl_loadcellN); exact rfl; infer_instance; exact rfl) | ((with_reducible apply wpl_storerow); exact rfl; exact rfl; infer_instance; infer_instance; (first | (with_reducible assumption) | (with_reducible exact H32.size _) | (with_reducible exact enc_sz _ rfl) | kernel_rfl); (first | (with_reducible assumption) | (with_reducible exact H32.size _) | (with_reducible exact enc_sz _ rfl) | kernel_rfl); (first | (with_reducible exact u8s_one _) | (with_reducible assumption) | (with_reducible exact enc_one _) | kernel_rfl); intro ws _ _))
      refine (rName_calls (strL (gt D i).l) (gt D i).l rfl HSL.out _).mono ?_
      rw [← HV1.out]
      rintro e w6 ⟨rfl, _⟩
      go_wp2_with (first | ((with_reducible apply (wpl_loadpart (g := z5) (k := 1) (n := 2) (tb := 115) (cs := (RowC.enc (gt D i)).toArray) (vs := [.slice (gt D i).k.A (gt D i).k.n (gt D i).k.c, .int .i64 (gt D i).k.need]))); exact rfl; infer_instance; infer_instance; exact (by decide); exact rfl; exact rfl) | ((with_reducible apply (wpl_guard (op := .load _ _))); exact rfl) | ((with_reducible apply (wpl_guard (op := .fieldAddr _ _ _))); exact rfl))
      have hr6 : HR w6 (gt D i).k.A (cellsOf (gt D i).k.l) := ⟨HDi.out.1.rd.later (stepN (w0 := w)).chg⟩
      refine (isKeys_calls (l := (gt D i).k.l) (gt D i).k.need HDi.out.1.len HDi.out.1.le).mono ?_
      rw [← HV2.out]
      rintro e w7 ⟨rfl, _⟩
      go_wp2_with (first | ((with_reducible apply (wpl_guard (op := .load _ _))); exact rfl) | ((with_reducible apply (wpl_guard (op := .call _))); exact rfl) | ((with_reducible apply (wpl_guard (op := .fieldAddr _ _ _))); exact rfl) | ((with_reducible apply wpl_loadcellN); exact rfl; infer_instance; exact rfl))
      refine (rName_calls (strL (gt D i).pre) (gt D i).pre rfl HSP.out _).mono ?_
      rw [← HV3.out]
      rintro e w8 ⟨rfl, _⟩
      have ht9 : HB w8 zt 64 #[.string (strL nm), .int .i64 v, .int .i64 e0, .slice A n c, .slice C m d] := inferInstance
      have h59 : HB w8 z5 115 (RowC.enc (gt D i)).toArray := inferInstance
      have st9 : Step nowhere w w8 := stepN
      go_wp2_with fail
      generalize w8 = w9 at *
     rotate_left
     focus
      rw [hpe] at hpre
      have HPC : Hid (dlPre D (i + 1) = dlFree D i i) := Lib.hid (by rw [HPB.out, hpe]; simp)
      clear hpe HPB
      go_wp2_with (first | ((with_reducible apply (wpl_indexE (α := DeleR) (t := 62))); exact rfl; exact rfl; infer_instance; infer_instance; (first | (with_reducible assumption) | omega); exact rfl; (decide); (first | (with_reducible assumption) | omega)) | ((with_reducible apply (wpl_loadE (α := DeleR) (t := 115))); infer_instance; exact rfl; infer_instance; exact rfl; (decide); (first | (with_reducible assumption) | omega)) | ((with_reducible apply (wpl_alloc (dst := some 5))); intro z5 wz5 _ _ _) | ((with_reducible apply (wpl_guard (op := .load _ _))); exact rfl) | ((with_reducible apply (wpl_guard (op := .fieldAddr _ _ _))); exact rfl) | ((with_reducible apply wpl_loadcellN); exact rfl; infer_instance; exact rfl) | ((with_reducible apply wpl_storerow); exact rfl; exact rfl; infer_instance; infer_instance; (first | (with_reducible assumption) | (with_reducible exact H32.size _) | (with_reducible exact enc_sz _ rfl) | kernel_rfl); (first | (with_reducible assumption) | (with_reducible exact H32.size _) | (with_reducible exact enc_sz _ rfl) | kernel_rfl); (first | (with_reducible exact u8s_one _) | (with_reducible assumption) | (with_reducible exact enc_one _) | kernel_rfl); intro ws _ _))
      refine (rName_calls (strL (gt D i).l) (gt D i).l rfl HSL.out _).mono ?_
      rw [← HV1.out]
      rintro e w6 ⟨rfl, _⟩
      go_wp2_with (first | ((with_reducible apply (wpl_loadpart (g := z5) (k := 1) (n := 2) (tb := 115) (cs := (RowC.enc (gt D i)).toArray) (vs := [.slice (gt D i).k.A (gt D i).k.n (gt D i).k.c, .int .i64 (gt D i).k.need]))); exact rfl; infer_instance; infer_instance; exact (by decide); exact rfl; exact rfl) | ((with_reducible apply (wpl_guard (op := .load _ _))); exact rfl) | ((with_reducible apply (wpl_guard (op := .fieldAddr _ _ _))); exact rfl))
      have hr6 : HR w6 (gt D i).k.A (cellsOf (gt D i).k.l) := ⟨HDi.out.1.rd.later (stepN (w0 := w)).chg⟩
      refine (isKeys_calls (l := (gt D i).k.l) (gt D i).k.need HDi.out.1.len HDi.out.1.le).mono ?_
      rw [← HV2.out]
      rintro e w7 ⟨rfl, _⟩
      have ht9 : HB w7 zt 64 #[.string (strL nm), .int .i64 v, .int .i64 e0, .slice A n c, .slice C m d] := inferInstance
      have h59 : HB w7 z5 115 (RowC.enc (gt D i)).toArray := inferInstance
      have st9 : Step nowhere w w7 := stepN
      go_wp2_with (first | go_big_skip | ((with_reducible apply (wpl_guard (op := .load _ _))); exact rfl) | ((with_reducible apply (wpl_guard (op := .fieldAddr _ _ _))); exact rfl) | ((with_reducible apply wpl_loadcellN); exact rfl; infer_instance; exact rfl))
      generalize w7 = w9 at *
     rotate_left
     all_goals
      go_loopw [6] (fun kv wr => ∃ k : Nat, k ≤ i ∧ kv = .int .i64 (k : Int) ∧ Hid (dlFree D i k = true) ∧ Step nowhere w wr ∧ HB wr zt 64 #[.string (strL nm), .int .i64 v, .int .i64 e0, .slice A n c, .slice C m d] ∧ HB wr z5 115 (RowC.enc (gt D i)).toArray) (fun kv _ => i - (intOf kv).toNat)
      case atStart => exact ⟨0, Nat.zero_le _, rfl, Lib.hid rfl, st9, ht9, h59⟩
      case round =>
       clear st9 ht9 h59
       obtain ⟨k, hk, rfl, HK, stk, htk, h5k⟩ := hrel
       have nrk : Nw w wr := ⟨stk.chg⟩
       have hqk : HR wr C (cellsOf D) := ⟨HQQ.out.later stk.chg⟩
       by_cases hki : k < i
       · have hkI : (k : Int) < i := by omega
         have hkD : k < D.length := by omega
         obtain ⟨Y, hY⟩ : ∃ Y, Y = decide ((gt D k).l = (gt D i).l) := ⟨_, rfl⟩
         have hq : ((strL (gt D k).l).toList == (strL (gt D i).l).toList) = Y := by
          rw [strL_list, strL_list, hY, Bool.eq_iff_iff]
          simp
         have HY := Lib.hid hY
         have HKS : Hid (dlFree D i (k + 1) = !Y) := Lib.hid (by rw [dlFree, HK.out, Bool.true_and, ← hY])
         clear hY
         cases Y
         case true =>
          have HF : Hid (R = false) := Lib.hid (HNO.out (by rw [HPC.out]; exact dlFree_no D i (k + 1) (by rw [HKS.out]; rfl) i hki))
          go_wp2_with fail
          refine wp_region_N (nowhere) (by kernel_rfl) (fun wd _ _ => ?_)
          refine' tk 0 _ rfl (by kernel_rfl) (by kernel_rfl) (by kernel_rfl) (fun _ _ _ h => h) (yo (by rfl) fun w' _ => ?_) inferInstance ?_
          rotate_left
          · (go_simp; try with_reducible rfl)
          try simp only [Act.put, sA, sB, sC]
          refine' tk 1 _ rfl (by kernel_rfl) (by kernel_rfl) (by kernel_rfl) (fun _ _ _ h => h) (yo (by rfl) fun w' _ => ?_) inferInstance ?_
          rotate_left
          · ((apply ev_loadcellN); exact rfl; infer_instance; infer_instance; exact rfl)
          try simp only [Act.put, sA, sB, sC]
          refine' tk 2 _ rfl (by kernel_rfl) (by kernel_rfl) (by kernel_rfl) (fun _ _ _ h => h) (yo (by rfl) fun w' _ => ?_) inferInstance ?_
          rotate_left
          · (go_simp; try with_reducible rfl)
          try simp only [Act.put, sA, sB, sC]
          refine' tk 3 _ rfl (by kernel_rfl) (by kernel_rfl) (by kernel_rfl) (fun _ _ _ h => h) (yo (by rfl) fun w' _ => ?_) inferInstance ?_
          rotate_left
          · ((apply (ev_indexE (α := DeleR) (t := 62))); exact rfl; exact rfl; infer_instance; infer_instance; (first | (with_reducible assumption) | omega | (focus (simp; done)) | (focus (simp; omega; done)) | decide); exact rfl; (decide); (first | (with_reducible assumption) | omega | (focus (simp; done)) | (focus (simp; omega; done)) | decide))
          try simp only [Act.put, sA, sB, sC]
          refine' tk 4 _ rfl (by kernel_rfl) (by kernel_rfl) (by kernel_rfl) (fun _ _ _ h => h) (yo (by rfl) fun w' _ => ?_) inferInstance ?_
          rotate_left
          · ((apply (ev_fieldE (t := 115))); exact Tryz.underlying115; exact rfl; (kernel_rfl); exact rfl; infer_instance; exact cells_pos (by decide) (by omega))
          try simp only [Act.put, sA, sB, sC]
          refine' tk 5 _ rfl (by kernel_rfl) (by kernel_rfl) (by kernel_rfl) (fun _ _ _ h => h) (yo (by rfl) fun w' _ => ?_) inferInstance ?_
          rotate_left
          · ((apply (ev_loadF (α := DeleR))); infer_instance; exact rfl; infer_instance; exact rfl; (first | (with_reducible assumption) | omega | (focus (simp; done)) | (focus (simp; omega; done)) | decide); exact rfl)
          try simp only [Act.put, sA, sB, sC]
          refine' tk 6 _ rfl (by kernel_rfl) (by kernel_rfl) (by kernel_rfl) (fun _ _ _ h => h) (yo (by rfl) fun w' _ => ?_) inferInstance ?_
          rotate_left
          · (go_simp; try with_reducible rfl)
          try simp only [Act.put, sA, sB, sC]
          refine' tk 7 _ rfl (by kernel_rfl) (by kernel_rfl) (by kernel_rfl) (fun _ _ _ h => h) (yo (by rfl) fun w' _ => ?_) inferInstance ?_
          rotate_left
          · ((apply ev_loadcellN); exact rfl; infer_instance; infer_instance; exact rfl)
          try simp only [Act.put, sA, sB, sC]
          refine' tk 8 _ rfl (by kernel_rfl) (by kernel_rfl) (by kernel_rfl) (fun _ _ _ h => h) (yo (by rfl) fun w' _ => ?_) inferInstance ?_
          rotate_left
          · (go_simp; try with_reducible rfl)
          try simp only [Act.put, sA, sB, sC]
          try simp only [FS1.out]
          refine wpAnyH_done (by kernel_rfl) ?_ _
          go_wp2_with fail
          go_ret
          rw [HF.out]
          exact ⟨rfl, stepN⟩
         case false =>
          go_wp2_with fail
          refine wp_region_N (nowhere) (by kernel_rfl) (fun wd _ _ => ?_)
          refine' tk 0 _ rfl (by kernel_rfl) (by kernel_rfl) (by kernel_rfl) (fun _ _ _ h => h) (yo (by rfl) fun w' _ => ?_) inferInstance ?_
          rotate_left
          · (go_simp; try with_reducible rfl)
          try simp only [Act.put, sA, sB, sC]
          refine' tk 1 _ rfl (by kernel_rfl) (by kernel_rfl) (by kernel_rfl) (fun _ _ _ h => h) (yo (by rfl) fun w' _ => ?_) inferInstance ?_
          rotate_left
          · ((apply ev_loadcellN); exact rfl; infer_instance; infer_instance; exact rfl)
          try simp only [Act.put, sA, sB, sC]
          refine' tk 2 _ rfl (by kernel_rfl) (by kernel_rfl) (by kernel_rfl) (fun _ _ _ h => h) (yo (by rfl) fun w' _ => ?_) inferInstance ?_
          rotate_left
          · (go_simp; try with_reducible rfl)
          try simp only [Act.put, sA, sB, sC]
          refine' tk 3 _ rfl (by kernel_rfl) (by kernel_rfl) (by kernel_rfl) (fun _ _ _ h => h) (yo (by rfl) fun w' _ => ?_) inferInstance ?_
          rotate_left
          · ((apply (ev_indexE (α := DeleR) (t := 62))); exact rfl; exact rfl; infer_instance; infer_instance; (first | (with_reducible assumption) | omega | (focus (simp; done)) | (focus (simp; omega; done)) | decide); exact rfl; (decide); (first | (with_reducible assumption) | omega | (focus (simp; done)) | (focus (simp; omega; done)) | decide))
          try simp only [Act.put, sA, sB, sC]
          refine' tk 4 _ rfl (by kernel_rfl) (by kernel_rfl) (by kernel_rfl) (fun _ _ _ h => h) (yo (by rfl) fun w' _ => ?_) inferInstance ?_
          rotate_left
          · ((apply (ev_fieldE (t := 115))); exact Tryz.underlying115; exact rfl; (kernel_rfl); exact rfl; infer_instance; exact cells_pos (by decide) (by omega))
          try simp only [Act.put, sA, sB, sC]
          refine' tk 5 _ rfl (by kernel_rfl) (by kernel_rfl) (by kernel_rfl) (fun _ _ _ h => h) (yo (by rfl) fun w' _ => ?_) inferInstance ?_
          rotate_left
          · ((apply (ev_loadF (α := DeleR))); infer_instance; exact rfl; infer_instance; exact rfl; (first | (with_reducible assumption) | omega | (focus (simp; done)) | (focus (simp; omega; done)) | decide); exact rfl)
          try simp only [Act.put, sA, sB, sC]
          refine' tk 6 _ rfl (by kernel_rfl) (by kernel_rfl) (by kernel_rfl) (fun _ _ _ h => h) (yo (by rfl) fun w' _ => ?_) inferInstance ?_
          rotate_left
          · (go_simp; try with_reducible rfl)
          try simp only [Act.put, sA, sB, sC]
          refine' tk 7 _ rfl (by kernel_rfl) (by kernel_rfl) (by kernel_rfl) (fun _ _ _ h => h) (yo (by rfl) fun w' _ => ?_) inferInstance ?_
          rotate_left
          · ((apply ev_loadcellN); exact rfl; infer_instance; infer_instance; exact rfl)
          try simp only [Act.put, sA, sB, sC]
          refine' tk 8 _ rfl (by kernel_rfl) (by kernel_rfl) (by kernel_rfl) (fun _ _ _ h => h) (yo (by rfl) fun w' _ => ?_) inferInstance ?_
          rotate_left
          · (go_simp; try with_reducible rfl)
          try simp only [Act.put, sA, sB, sC]
          try simp only [FS1.out]
          refine wpAnyH_done (by kernel_rfl) ?_ _
          go_wp2_with fail
          exact ⟨⟨k + 1, by omega, by go_num, Lib.hid (by rw [HKS.out]; rfl), stepN, inferInstance, inferInstance⟩, by simp [intOf]; omega⟩
       · have hkI : ¬ (k : Int) < i := by omega
         have hke : k = i := by omega
         have HT : Hid (dlPre D (i + 1) = true) := Lib.hid (by rw [HPC.out, ← HK.out, hke])
         clear hke hki
         go_wp2_with fail
         exact ⟨⟨i + 1, by omega, fun _ => by omega, by go_num, HT, stepN, inferInstance⟩, by simp [intOf]; omega⟩
    have HDN : Hid (m ≤ 16 → dlPre D m = true) := Lib.hid (fun h => by
     have hkn : i = m := by omega
     rw [← hkn]
     exact HJ.out)
    have hcase : (¬ i < m) ∨ (i < m ∧ ¬ m ≤ 16) := by omega
    have HR2 : Hid (R = (nameL nm && verB v && numB e0 && decide (n ≤ 16) && decide (m ≤ 16))) := Lib.hid (by
     rw [HR1.out]
     by_cases h : m ≤ 16
     · rw [HDN.out h, Bool.and_true]
     · rw [decide_eq_false h]; simp)
    have hszn : (strL nm).size ≤ 9223372036854775807 := by rw [strL_sizeF]; exact HNM.out
    have HSN := Lib.hid hszn
    clear hlt hi0 HDN HJ hszn
    rcases hcase with hlt | ⟨hlt, h16⟩
    focus
     have hltI : ¬ (i : Int) < m := by omega
     go_wp2_with (first | go_big_skip | ((with_reducible apply wpl_loadcellN); exact rfl; infer_instance; exact rfl))
     refine (rName_calls (strL nm) nm rfl HSN.out _).mono ?_
    rotate_left
    focus
     have hltI : (i : Int) < m := by omega
     have h16I : ¬ (m : Int) ≤ 16 := by omega
     clear h16
     go_wp2_with (first | ((with_reducible apply (wpl_guard (op := .load _ _))); exact rfl) | ((with_reducible apply (wpl_guard (op := .fieldAddr _ _ _))); exact rfl) | ((with_reducible apply wpl_loadcellN); exact rfl; infer_instance; exact rfl))
     refine (rName_calls (strL nm) nm rfl HSN.out _).mono ?_
    rotate_left
    all_goals
     clear hltI hlt
     try clear h16I
     cases h0 : nameL nm
     case false =>
      have HF : Hid (R = false) := Lib.hid (by rw [HR2.out, h0]; simp)
      rintro e w5 ⟨rfl, _⟩
      go_wp2_with (first | go_big_skip)
      go_ret
      rw [HF.out]
      exact ⟨rfl, stepN⟩
     rintro e w5 ⟨rfl, _⟩
     go_wp2_with (first | ((with_reducible apply (wpl_guard (op := .load _ _))); exact rfl) | ((with_reducible apply (wpl_guard (op := .call _))); exact rfl) | ((with_reducible apply (wpl_guard (op := .fieldAddr _ _ _))); exact rfl) | ((with_reducible apply wpl_loadcellN); exact rfl; infer_instance; exact rfl))
     refine (rVersion_calls v _).mono ?_
     cases h1 : verB v
     case false =>
      have HF : Hid (R = false) := Lib.hid (by rw [HR2.out, h1]; simp)
      rintro e w6 ⟨rfl, _⟩
      go_wp2_with (first | go_big_skip)
      go_ret
      rw [HF.out]
      exact ⟨rfl, stepN⟩
     rintro e w6 ⟨rfl, _⟩
     go_wp2_with (first | ((with_reducible apply (wpl_guard (op := .load _ _))); exact rfl) | ((with_reducible apply (wpl_guard (op := .call _))); exact rfl) | ((with_reducible apply (wpl_guard (op := .buildSlice _ _ _))); exact rfl) | ((with_reducible apply (stop_dst (dst := some 110))); (try simp only [Act.put, sA, sB, sC]); ((with_reducible apply (wpl_bslice (dst := some 110))); exact kb1 _; intro zb wb _ _ _)) | ((with_reducible apply (wpl_guard (op := .fieldAddr _ _ _))); exact rfl) | ((with_reducible apply wpl_loadcellN); exact rfl; infer_instance; exact rfl))
     have hr2 : HR wb (some ⟨zb, 0, none⟩) (i64l [e0]) := HR.ints1 (inferInstance : HB wb zb 3 #[.int .i64 e0])
     refine (rNum_calls (l := [e0]) (n := 1) (c := 1) rfl (by decide)).mono ?_
     rw [allNum1]
     cases h2 : numB e0
     case false =>
      have HF : Hid (R = false) := Lib.hid (by rw [HR2.out, h2]; simp)
      rintro e w7 ⟨rfl, _⟩
      go_wp2_with (first | go_big_skip)
      go_ret
      rw [HF.out]
      exact ⟨rfl, stepN⟩
     rintro e w7 ⟨rfl, _⟩
     have HR3 : Hid (R = (decide (n ≤ 16) && decide (m ≤ 16))) := Lib.hid (by rw [HR2.out, h0, h1, h2]; simp)
     by_cases h3 : n ≤ 16
     · have h3I : (n : Int) ≤ 16 := by omega
       have HF : Hid (R = decide ((m : Int) ≤ 16)) := Lib.hid (by
        rw [HR3.out, decide_eq_true h3, Bool.true_and, Bool.eq_iff_iff, decide_eq_true_eq, decide_eq_true_eq]
        omega)
       go_wp2_with (first | ((with_reducible apply (wpl_guard (op := .load _ _))); exact rfl) | ((with_reducible apply (wpl_guard (op := .call _))); exact rfl) | ((with_reducible apply (wpl_guard (op := .fieldAddr _ _ _))); exact rfl) | ((with_reducible apply wpl_loadcellN); exact rfl; infer_instance; exact rfl))
       go_ret
       rw [HF.out]
       exact ⟨rfl, stepN⟩
     · have h3I : ¬ (n : Int) ≤ 16 := by omega
       have HF : Hid (R = false) := Lib.hid (by rw [HR3.out, decide_eq_false h3]; simp)
       go_wp2_with (first | go_big_skip | ((with_reducible apply (wpl_guard (op := .load _ _))); exact rfl) | ((with_reducible apply (wpl_guard (op := .call _))); exact rfl) | ((with_reducible apply (wpl_guard (op := .fieldAddr _ _ _))); exact rfl) | ((with_reducible apply wpl_loadcellN); exact rfl; infer_instance; exact rfl))
       go_ret
       rw [HF.out]
       exact ⟨rfl, stepN⟩
end Go.Proofs.YtgjnjhhhbkidbaaGreat
