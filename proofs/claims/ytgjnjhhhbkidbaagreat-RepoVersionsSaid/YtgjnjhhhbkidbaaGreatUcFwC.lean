/- TgL, FwB, FwD, FwC -/
import Derived.Test.YtgjnjhhhbkidbaaGreatUcFwE
import Derived.Test.YtgjnjhhhbkidbaaGreatUcRoH
import Derived.Test.YtgjnjhhhbkidbaaGreatUcSnD
section
open Go Go.RowKit
namespace Go.Proofs.YtgjnjhhhbkidbaaGreat
/-- the blocks that what is handed on lies in -/
def usedD (D : List DeleR) : Nat → Prop := fun x => ∃ k ∈ D, inRow k.k.A k.k.l x
def inDls (C : Option Addr) (D : List DeleR) : Nat → Prop := fun x => (cellsOf D ≠ [] ∧ rowOf C x) ∨ usedD D x
def dlsE (D : List DeleR) : List UInt8 := D.flatMap dlE
def tgsB (nm : List UInt8) (v e0 : Int) (n m : Nat) (P : List TargetR) (D : List DeleR) : List UInt8 := encRow nm ++ (encAll [v, e0] ++ ((encAll [(n : Int)] ++ tgsE P) ++ (encAll [(m : Int)] ++ dlsE D)))
theorem dlsE_len (D : List DeleR) (h : D.all dlOk = true) : (dlsE D).length ≤ 300 * D.length := by
 induction D with
 | nil => exact Nat.zero_le _
 | cons p P ih =>
  have e : dlsE (p :: P) = dlE p ++ dlsE P := rfl
  rw [List.all_cons, Bool.and_eq_true] at h
  have h1 := ih h.2
  have h2 := h.1
  unfold dlOk at h2
  simp only [Bool.and_eq_true] at h2
  have a1 := encRow_len p.l (by have := nameL_le h2.1.1; omega)
  have a3 := encRow_len p.pre (by have := nameE_le h2.2; omega)
  have b1 := nameL_le h2.1.1
  have b3 := nameE_le h2.2
  have c1 := keyB_len p.k.l p.k.need
  have c2 : p.k.l.length ≤ 4 := by
   have h3 := h2.1.2
   unfold isB at h3
   simp only [Bool.and_eq_true, decide_eq_true_eq] at h3
   exact h3.1.1.1
  have c3 := encAll_len [if p.last then 1 else 0]
  rw [e, List.length_append, List.length_cons, dlE, flagE]
  simp only [List.length_append, List.length_cons, List.length_nil] at *
  omega
theorem tgsOk_in {nm : List UInt8} {v e0 : Int} {P : List TargetR} {D : List DeleR} (h : tgsOk nm v e0 P D = true) : nameL nm = true ∧ P.length ≤ 16 ∧ P.all tgOk = true ∧ D.length ≤ 16 ∧ D.all dlOk = true := by
 unfold tgsOk at h
 rw [Bool.and_eq_true, Bool.and_eq_true, Bool.and_eq_true, Bool.and_eq_true, Bool.and_eq_true, Bool.and_eq_true, Bool.and_eq_true, Bool.and_eq_true, decide_eq_true_eq, decide_eq_true_eq] at h
 exact ⟨h.1.1.1.1.1.1.1.1, h.1.1.1.1.1.2, h.1.1.1.1.2, h.1.1.2, h.1.2⟩
set_option maxRecDepth 100000 in
set_option maxHeartbeats 3200000 in
theorem layTargets_calls (nm : List UInt8) (v e0 : Int) {A C : Option Addr} {n c m d : Nat} {P : List TargetR} {D : List DeleR} {w : World} [hr : HR w A (cellsOf P)] [hq : HR w C (cellsOf D)] (hl : P.length = n) (hm : D.length = m) (hD : ∀ k ∈ D, DIn w k) (hn9 : n ≤ 1000000000) (hm9 : m ≤ 1000000000) :
    Calls Tryz.prog 63 #[.agg #[.string (strL nm), .int .i64 v, .int .i64 e0, .slice A n c, .slice C m d]] w (FldPost w (tgsB nm v e0 n m P D) (fun x => inTgs A P x ∨ inDls C D x)) := by
 have HRR := Lib.hid hr.out
 have HL := Lib.hid hl
 have HQQ := Lib.hid hq.out
 have HM := Lib.hid hm
 have HDI := Lib.hid hD
 clear hl hm hD
 unfold FldPost
 go_enter Tryz.func63, Tryz.ntmps63
 go_wp2_with (first | ((with_reducible apply (wpl_box_agg (dst := some 1))); exact rfl; intro zt wzt _ _ _))
 have hwz := (stepN (w0 := w) (w := wzt)).chg.size
 refine wp_region_N (nowhere) (by kernel_rfl) (fun wd _ _ => ?_)
 refine' tk 0 _ rfl (by kernel_rfl) (by kernel_rfl) (by kernel_rfl) (fun _ _ _ h => h) (yo (by rfl) fun w' _ => ?_) inferInstance ?_
 rotate_left
 · (go_simp; try with_reducible rfl)
 try simp only [Act.put, sA, sB, sC]
 refine' tk 1 _ rfl (by kernel_rfl) (by kernel_rfl) (by kernel_rfl) (fun _ _ _ h => h) (yo (by rfl) fun w' _ => ?_) inferInstance ?_
 rotate_left
 · ((apply ev_loadcellN); exact rfl; infer_instance; infer_instance; exact rfl)
 try simp only [Act.put, sA, sB, sC]
 refine' tk 3 _ rfl (by kernel_rfl) (by kernel_rfl) (by kernel_rfl) (fun _ _ _ h => h) (yo (by rfl) fun w' _ => ?_) inferInstance ?_
 rotate_left
 · (go_simp; try with_reducible rfl)
 try simp only [Act.put, sA, sB, sC]
 refine' tk 4 _ rfl (by kernel_rfl) (by kernel_rfl) (by kernel_rfl) (fun _ _ _ h => h) (yo (by rfl) fun w' _ => ?_) inferInstance ?_
 rotate_left
 · ((apply ev_loadcellN); exact rfl; infer_instance; infer_instance; exact rfl)
 try simp only [Act.put, sA, sB, sC]
 refine' tk 5 _ rfl (by kernel_rfl) (by kernel_rfl) (by kernel_rfl) (fun _ _ _ h => h) (yo (by rfl) fun w' _ => ?_) inferInstance ?_
 rotate_left
 · (go_simp; try with_reducible rfl)
 try simp only [Act.put, sA, sB, sC]
 refine' tk 6 _ rfl (by kernel_rfl) (by kernel_rfl) (by kernel_rfl) (fun _ _ _ h => h) (yo (by rfl) fun w' _ => ?_) inferInstance ?_
 rotate_left
 · ((apply ev_loadcellN); exact rfl; infer_instance; infer_instance; exact rfl)
 try simp only [Act.put, sA, sB, sC]
 refine' tk 9 _ rfl (by kernel_rfl) (by kernel_rfl) (by kernel_rfl) (fun _ _ _ h => h) (yo (by rfl) fun w' _ => ?_) inferInstance ?_
 rotate_left
 · (go_simp; try with_reducible rfl)
 try simp only [Act.put, sA, sB, sC]
 refine' tk 10 _ rfl (by kernel_rfl) (by kernel_rfl) (by kernel_rfl) (fun _ _ _ h => h) (yo (by rfl) fun w' _ => ?_) inferInstance ?_
 rotate_left
 · ((apply ev_loadcellN); exact rfl; infer_instance; infer_instance; exact rfl)
 try simp only [Act.put, sA, sB, sC]
 refine' tk 12 _ rfl (by kernel_rfl) (by kernel_rfl) (by kernel_rfl) (fun _ _ _ h => h) (yo (by rfl) fun w' _ => ?_) inferInstance ?_
 rotate_left
 · (go_simp; try with_reducible rfl)
 try simp only [Act.put, sA, sB, sC]
 refine' tk 13 _ rfl (by kernel_rfl) (by kernel_rfl) (by kernel_rfl) (fun _ _ _ h => h) (yo (by rfl) fun w' _ => ?_) inferInstance ?_
 rotate_left
 · ((apply ev_loadcellN); exact rfl; infer_instance; infer_instance; exact rfl)
 try simp only [Act.put, sA, sB, sC]
 refine wpAnyH_ready (rs := [2, 7]) (by kernel_rfl) (by simp) (AllReadyH.cons rfl (fun K_ hK_ => ?_) (AllReadyH.cons rfl (fun K_ hK_ => ?_) AllReadyH.nil))
 focus
  go_simp
  refine (text_calls (strL nm) nm rfl _).mono ?_
  rintro e w4 ⟨f4, caps4, T4, rfl, _, hL4, hT4⟩
  refine hK_.out _ _ inferInstance (fun _ => ?_)
  clear hK_ K_
  try simp only [Act.put, sA, sB, sC]
  refine goH (i := 7) (by kernel_rfl) rfl (fun K_ hK_ => ?_)
  rw [if_pos (by kernel_rfl)]
  refine wpr_of_list ?_
  (first | ((with_reducible apply (stop_dst (dst := some 10))); (try simp only [Act.put, sA, sB, sC]); ((with_reducible apply (wpl_bslice (dst := some 10))); exact run_int2 _ _ _; intro zb wb _ _ _)) | ((with_reducible apply (stop_dst (dst := some 18))); (try simp only [Act.put, sA, sB, sC]); ((with_reducible apply (wpl_bslice (dst := some 18))); exact run_fld4 _ _ _ _ _ _ _ _ _; intro zc wb _ _ _)))
  refine wpList_nil ?_
  unfold onlyN
  refine hK_.out _ _ inferInstance (fun _ => ?_)
  clear hK_ K_
  try simp only [Act.put, sA, sB, sC]
  refine goH (i := 8) (by kernel_rfl) rfl (fun K_ hK_ => ?_)
  go_simp
  refine (numsC (z := zb) (vs := [v, e0]) rfl rfl (show 9 * 2 ≤ 1000000000 by decide)).mono ?_
  rintro e w5 ⟨f5, caps5, T5, rfl, _, hL5, hT5⟩
  have hzb : w.heap.size ≤ zb := (NewA.monoS (w0 := w) (NewA.of_born (z := zb) 0)).out ⟨zb, 0, none⟩ rfl
  refine hK_.out _ _ inferInstance (fun _ => ?_)
  clear hK_ K_
  try simp only [Act.put, sA, sB, sC]
  refine goH (i := 11) (by kernel_rfl) rfl (fun K_ hK_ => ?_)
  go_simp
  refine (listT_calls (l := P) tgE nowhere (HRR.out.later (stepN (w0 := w)).chg) HL.out hn9 (fun _ h => h.elim) (fun x _ w1 _ => layTarget_calls x w1)).mono ?_
  rintro e w6 ⟨f6, caps6, T6, rfl, _, hL6, hT6⟩
  refine hK_.out _ _ inferInstance (fun _ => ?_)
  clear hK_ K_
  try simp only [Act.put, sA, sB, sC]
  refine goH (i := 14) (by kernel_rfl) rfl (fun K_ hK_ => ?_)
  go_simp
  refine (listD_calls (l := D) dlE (usedD D) (HQQ.out.later (stepN (w0 := w)).chg) HM.out hm9 (fun x ⟨k, hk, hx⟩ => Nat.lt_of_lt_of_le ((HDI.out k hk).low x hx) (stepN (w0 := w)).chg.size) (fun k hk w1 hc => (layDele_calls k ((KIn.chg (HDI.out k hk) (stepN (w0 := w)).chg (fun _ _ h => h)).chg hc (fun x hx h => h ⟨k, hk, hx⟩))).mono (FldPost.mono rfl (fun x hx => ⟨k, hk, hx⟩)))).mono ?_
  rintro e w7 ⟨f7, caps7, T7, rfl, _, hL7, hT7⟩
  refine hK_.out _ _ inferInstance (fun _ => ?_)
  clear hK_ K_
  try simp only [Act.put, sA, sB, sC]
  refine goH (i := 15) (by kernel_rfl) rfl (fun K_ hK_ => ?_)
  rw [if_pos (by kernel_rfl)]
  refine wpr_of_list ?_
  (first | ((with_reducible apply (stop_dst (dst := some 10))); (try simp only [Act.put, sA, sB, sC]); ((with_reducible apply (wpl_bslice (dst := some 10))); exact run_int2 _ _ _; intro zb wb _ _ _)) | ((with_reducible apply (stop_dst (dst := some 18))); (try simp only [Act.put, sA, sB, sC]); ((with_reducible apply (wpl_bslice (dst := some 18))); exact run_fld4 _ _ _ _ _ _ _ _ _; intro zc wb _ _ _)))
  refine wpList_nil ?_
  unfold onlyN
  refine hK_.out _ _ inferInstance (fun _ => ?_)
  clear hK_ K_
  try simp only [Act.put, sA, sB, sC]
  refine goH (i := 16) (by kernel_rfl) rfl (fun K_ hK_ => ?_)
  go_simp
  refine (fields4 (z := zc) (hL4.later (stepN (w0 := w4)).chg (fun _ _ h => h)) (hL5.later (stepN (w0 := w5)).chg (fun _ _ h => h)) (hL6.later (stepN (w0 := w6)).chg (fun _ _ h => h)) (hL7.later (stepN (w0 := w7)).chg (fun _ _ h => h))).mono ?_
  rintro e w8 ⟨f8, caps8, T8, rfl, _, hL8, hT8⟩
  have hzc : w.heap.size ≤ zc := (NewA.monoS (w0 := w) (NewA.of_born (z := zc) 0)).out ⟨zc, 0, none⟩ rfl
  refine hK_.out _ _ inferInstance (fun _ => ?_)
  clear hK_ K_
  try simp only [Act.put, sA, sB, sC]
  refine' tk 17 _ rfl (by kernel_rfl) (by kernel_rfl) (by kernel_rfl) (fun _ _ _ h => h) (yo (by rfl) fun w' _ => ?_) inferInstance ?_
  rotate_left
  · (go_simp; try with_reducible rfl)
  try simp only [Act.put, sA, sB, sC]
  refine wpAnyH_done (by kernel_rfl) ?_ _
 rotate_left 1
 focus
  rw [if_pos (by kernel_rfl)]
  refine wpr_of_list ?_
  (first | ((with_reducible apply (stop_dst (dst := some 10))); (try simp only [Act.put, sA, sB, sC]); ((with_reducible apply (wpl_bslice (dst := some 10))); exact run_int2 _ _ _; intro zb wb _ _ _)) | ((with_reducible apply (stop_dst (dst := some 18))); (try simp only [Act.put, sA, sB, sC]); ((with_reducible apply (wpl_bslice (dst := some 18))); exact run_fld4 _ _ _ _ _ _ _ _ _; intro zc wb _ _ _)))
  refine wpList_nil ?_
  unfold onlyN
  refine hK_.out _ _ inferInstance (fun _ => ?_)
  clear hK_ K_
  try simp only [Act.put, sA, sB, sC]
  refine goH (i := 2) (by kernel_rfl) rfl (fun K_ hK_ => ?_)
  go_simp
  refine (text_calls (strL nm) nm rfl _).mono ?_
  rintro e w4 ⟨f4, caps4, T4, rfl, _, hL4, hT4⟩
  refine hK_.out _ _ inferInstance (fun _ => ?_)
  clear hK_ K_
  try simp only [Act.put, sA, sB, sC]
  refine goH (i := 8) (by kernel_rfl) rfl (fun K_ hK_ => ?_)
  go_simp
  refine (numsC (z := zb) (vs := [v, e0]) rfl rfl (show 9 * 2 ≤ 1000000000 by decide)).mono ?_
  rintro e w5 ⟨f5, caps5, T5, rfl, _, hL5, hT5⟩
  have hzb : w.heap.size ≤ zb := (NewA.monoS (w0 := w) (NewA.of_born (z := zb) 0)).out ⟨zb, 0, none⟩ rfl
  refine hK_.out _ _ inferInstance (fun _ => ?_)
  clear hK_ K_
  try simp only [Act.put, sA, sB, sC]
  refine goH (i := 11) (by kernel_rfl) rfl (fun K_ hK_ => ?_)
  go_simp
  refine (listT_calls (l := P) tgE nowhere (HRR.out.later (stepN (w0 := w)).chg) HL.out hn9 (fun _ h => h.elim) (fun x _ w1 _ => layTarget_calls x w1)).mono ?_
  rintro e w6 ⟨f6, caps6, T6, rfl, _, hL6, hT6⟩
  refine hK_.out _ _ inferInstance (fun _ => ?_)
  clear hK_ K_
  try simp only [Act.put, sA, sB, sC]
  refine goH (i := 14) (by kernel_rfl) rfl (fun K_ hK_ => ?_)
  go_simp
  refine (listD_calls (l := D) dlE (usedD D) (HQQ.out.later (stepN (w0 := w)).chg) HM.out hm9 (fun x ⟨k, hk, hx⟩ => Nat.lt_of_lt_of_le ((HDI.out k hk).low x hx) (stepN (w0 := w)).chg.size) (fun k hk w1 hc => (layDele_calls k ((KIn.chg (HDI.out k hk) (stepN (w0 := w)).chg (fun _ _ h => h)).chg hc (fun x hx h => h ⟨k, hk, hx⟩))).mono (FldPost.mono rfl (fun x hx => ⟨k, hk, hx⟩)))).mono ?_
  rintro e w7 ⟨f7, caps7, T7, rfl, _, hL7, hT7⟩
  refine hK_.out _ _ inferInstance (fun _ => ?_)
  clear hK_ K_
  try simp only [Act.put, sA, sB, sC]
  refine goH (i := 15) (by kernel_rfl) rfl (fun K_ hK_ => ?_)
  rw [if_pos (by kernel_rfl)]
  refine wpr_of_list ?_
  (first | ((with_reducible apply (stop_dst (dst := some 10))); (try simp only [Act.put, sA, sB, sC]); ((with_reducible apply (wpl_bslice (dst := some 10))); exact run_int2 _ _ _; intro zb wb _ _ _)) | ((with_reducible apply (stop_dst (dst := some 18))); (try simp only [Act.put, sA, sB, sC]); ((with_reducible apply (wpl_bslice (dst := some 18))); exact run_fld4 _ _ _ _ _ _ _ _ _; intro zc wb _ _ _)))
  refine wpList_nil ?_
  unfold onlyN
  refine hK_.out _ _ inferInstance (fun _ => ?_)
  clear hK_ K_
  try simp only [Act.put, sA, sB, sC]
  refine goH (i := 16) (by kernel_rfl) rfl (fun K_ hK_ => ?_)
  go_simp
  refine (fields4 (z := zc) (hL4.later (stepN (w0 := w4)).chg (fun _ _ h => h)) (hL5.later (stepN (w0 := w5)).chg (fun _ _ h => h)) (hL6.later (stepN (w0 := w6)).chg (fun _ _ h => h)) (hL7.later (stepN (w0 := w7)).chg (fun _ _ h => h))).mono ?_
  rintro e w8 ⟨f8, caps8, T8, rfl, _, hL8, hT8⟩
  have hzc : w.heap.size ≤ zc := (NewA.monoS (w0 := w) (NewA.of_born (z := zc) 0)).out ⟨zc, 0, none⟩ rfl
  refine hK_.out _ _ inferInstance (fun _ => ?_)
  clear hK_ K_
  try simp only [Act.put, sA, sB, sC]
  refine' tk 17 _ rfl (by kernel_rfl) (by kernel_rfl) (by kernel_rfl) (fun _ _ _ h => h) (yo (by rfl) fun w' _ => ?_) inferInstance ?_
  rotate_left
  · (go_simp; try with_reducible rfl)
  try simp only [Act.put, sA, sB, sC]
  refine wpAnyH_done (by kernel_rfl) ?_ _
 rotate_left 1
 all_goals
  go_wp2_with fail
  go_ret
  first | refine ⟨f8, caps8, rfl, stepN, T8, hL8, fun x hx => ?_⟩ | refine ⟨f8, caps8, T8, rfl, stepN, hL8, fun x hx => ?_⟩
  rcases hT8 x hx with h | rfl | h | h | h | h
  · exact .inl (Nat.le_trans (stepN (w0 := w)).chg.size h)
  · exact .inl hzc
  · exact .inl (Nat.le_trans (stepN (w0 := w)).chg.size (hT4 x h))
  · rcases hT5 x h with h | rfl
    · exact .inl (Nat.le_trans (stepN (w0 := w)).chg.size h)
    · exact .inl hzb
  · rcases hT6 x h with h | h | h
    · exact .inl (Nat.le_trans (stepN (w0 := w)).chg.size h)
    · exact .inr (.inl h)
    · exact h.elim
  · rcases hT7 x h with h | h | h
    · exact .inl (Nat.le_trans (stepN (w0 := w)).chg.size h)
    · exact .inr (.inr (.inl h))
    · exact .inr (.inr (.inr h))
set_option maxRecDepth 100000 in
set_option maxHeartbeats 1600000 in
theorem encTgs_calls (nm : List UInt8) (v e0 : Int) {A C : Option Addr} {n c m d : Nat} {P : List TargetR} {D : List DeleR} {w : World} [hr : HR w A (cellsOf P)] [hq : HR w C (cellsOf D)] (hl : P.length = n) (hm : D.length = m) (hD : ∀ k ∈ D, DInW w k) (hmax : n ≤ 9223372036854775807) (hmaxm : m ≤ 9223372036854775807) :
    Calls Tryz.prog 61 #[.int .i64 4, .agg #[.string (strL nm), .int .i64 v, .int .i64 e0, .slice A n c, .slice C m d], .func (.func 62) #[] #[], .func (.func 63) #[] #[]] w (EncPost (tgsOk nm v e0 P D) (encAll [4] ++ tgsB nm v e0 n m P D) w) := by
 have HRR := Lib.hid hr.out
 have HL := Lib.hid hl
 have HQQ := Lib.hid hq.out
 have HM := Lib.hid hm
 have HDW := Lib.hid hD
 clear hl hm hD
 unfold EncPost
 rcases hb : tgsOk nm v e0 P D with _ | _
 · go_enter Tryz.func61, Tryz.ntmps61
   go_wp2_with (first | ((with_reducible apply (wpl_box_agg (dst := some 5))); exact rfl; intro zt wzt _ _ _) | ((with_reducible apply wpl_loadrow); exact rfl; infer_instance; infer_instance; (first | (with_reducible assumption) | (with_reducible exact H32.size _) | (with_reducible exact enc_sz _ rfl) | kernel_rfl)))
   refine (isTargets_calls nm v e0 (P := P) (D := D) HL.out HM.out hmax hmaxm (fun k hk => DInW.nw (w0 := w) (HDW.out k hk))).mono ?_
   rw [hb]
   rintro e w5 ⟨rfl, _⟩
   go_wp2_with fail
   go_ret2
   exact ⟨stepN, rfl⟩
 · have hin := tgsOk_in hb
   have HP := Lib.hid (tgsE_len P hin.2.2.1)
   have HP16 := Lib.hid hin.2.1
   have HD := Lib.hid (dlsE_len D hin.2.2.2.2)
   have HD16 := Lib.hid hin.2.2.2.1
   have HNM := Lib.hid hin.1
   have HDI : Hid (∀ k ∈ D, DIn w k) := Lib.hid (fun k hk => ⟨(HDW.out k hk).rd, (HDW.out k hk).len, (HDW.out k hk).cap, by
    have h8 := List.all_eq_true.1 hin.2.2.2.2 k hk
    unfold dlOk isB at h8
    simp only [Bool.and_eq_true, decide_eq_true_eq] at h8
    have h9 := (HDW.out k hk).len
    omega⟩)
   clear hin
   go_enter Tryz.func61, Tryz.ntmps61
   go_wp2_with (first | ((with_reducible apply (wpl_box_agg (dst := some 5))); exact rfl; intro zt wzt _ _ _) | ((with_reducible apply wpl_loadrow); exact rfl; infer_instance; infer_instance; (first | (with_reducible assumption) | (with_reducible exact H32.size _) | (with_reducible exact enc_sz _ rfl) | kernel_rfl)))
   refine (isTargets_calls nm v e0 (P := P) (D := D) HL.out HM.out hmax hmaxm (fun k hk => DInW.nw (w0 := w) (HDW.out k hk))).mono ?_
   rw [hb]
   rintro e w5 ⟨rfl, _⟩
   go_wp2_with (first | ((with_reducible apply (wpl_alloc (dst := some 10))); intro zw wzw _ _ _))
   have hzw := (inferInstance : HB wzw zw 184 #[.slice none 0 0]).out.lt
   have n9 : Nw w wzw := inferInstance
   have hzw0 : w.heap.size ≤ zw := (NewA.monoS (w0 := w) (NewA.of_born (z := zw) 0)).out ⟨zw, 0, none⟩ rfl
   have hrz : HR wzw A (cellsOf P) := ⟨HRR.out.later n9.out⟩
   have hqz : HR wzw C (cellsOf D) := ⟨HQQ.out.later n9.out⟩
   refine wp_region_N ((only zw)) (by kernel_rfl) (fun wd _ _ => ?_)
   refine' tk 0 _ rfl (by kernel_rfl) (by kernel_rfl) (by kernel_rfl) (fun _ _ _ h => h) (yo (by rfl) fun w' _ => ?_) inferInstance ?_
   rotate_left
   · (go_simp; try with_reducible rfl)
   try simp only [Act.put, sA, sB, sC]
   refine' tk 3 _ rfl (by kernel_rfl) (by kernel_rfl) (by kernel_rfl) (fun _ _ _ h => h) (yo (by rfl) fun w' _ => ?_) inferInstance ?_
   rotate_left
   · (go_simp; try with_reducible rfl)
   try simp only [Act.put, sA, sB, sC]
   refine' tk 4 _ rfl (by kernel_rfl) (by kernel_rfl) (by kernel_rfl) (fun _ _ _ h => h) (yo (by rfl) fun w' _ => ?_) inferInstance ?_
   rotate_left
   · ((apply ev_loadrow); exact rfl; infer_instance; infer_instance; (first | (with_reducible assumption) | (with_reducible exact H32.size _) | (with_reducible exact enc_sz _ rfl) | kernel_rfl))
   try simp only [Act.put, sA, sB, sC]
   refine goH (i := 1) (by kernel_rfl) rfl (fun K_ hK_ => ?_)
   rw [if_pos (by kernel_rfl)]
   refine wpr_of_list ?_
   (first | ((with_reducible apply (stop_dst (dst := some 16))); (try simp only [Act.put, sA, sB, sC]); ((with_reducible apply (wpl_bslice (dst := some 16))); exact run_int1 _ _; intro zb wb _ _ _)) | ((with_reducible apply (stop_dst (dst := some 21))); (try simp only [Act.put, sA, sB, sC]); ((with_reducible apply (wpl_bslice (dst := some 21))); exact run_fld2 _ _ _ _ _; intro zc wb _ _ _)))
   refine wpList_nil ?_
   unfold onlyN
   refine hK_.out _ _ inferInstance (fun _ => ?_)
   clear hK_ K_
   try simp only [Act.put, sA, sB, sC]
   refine goH (i := 2) (by kernel_rfl) rfl (fun K_ hK_ => ?_)
   go_simp
   refine (numsC (z := zb) (vs := [4]) rfl rfl (show 9 * 1 ≤ 1000000000 by decide)).mono ?_
   rintro e w6 ⟨f6, caps6, T6, rfl, _, hL6, hT6⟩
   have hzb : wzw.heap.size ≤ zb := (NewA.monoS (w0 := wzw) (NewA.of_born (z := zb) 0)).out ⟨zb, 0, none⟩ rfl
   refine hK_.out _ _ inferInstance (fun _ => ?_)
   clear hK_ K_
   try simp only [Act.put, sA, sB, sC]
   refine goH (i := 5) (by kernel_rfl) rfl (fun K_ hK_ => ?_)
   go_simp
   refine (layTargets_calls nm v e0 (P := P) (D := D) HL.out HM.out (fun k hk => KIn.chg (HDI.out k hk) (n9.out.trans (stepN (w0 := wzw)).chg (fun _ _ h => h)) (fun _ _ h => h)) (by have h8 := HP16.out; have h9 := HL.out; omega) (by have h8 := HD16.out; have h9 := HM.out; omega)).mono ?_
   rintro e w7 ⟨f7, caps7, T7, rfl, _, hL7, hT7⟩
   refine hK_.out _ _ inferInstance (fun _ => ?_)
   clear hK_ K_
   try simp only [Act.put, sA, sB, sC]
   refine goH (i := 6) (by kernel_rfl) rfl (fun K_ hK_ => ?_)
   rw [if_pos (by kernel_rfl)]
   refine wpr_of_list ?_
   (first | ((with_reducible apply (stop_dst (dst := some 16))); (try simp only [Act.put, sA, sB, sC]); ((with_reducible apply (wpl_bslice (dst := some 16))); exact run_int1 _ _; intro zb wb _ _ _)) | ((with_reducible apply (stop_dst (dst := some 21))); (try simp only [Act.put, sA, sB, sC]); ((with_reducible apply (wpl_bslice (dst := some 21))); exact run_fld2 _ _ _ _ _; intro zc wb _ _ _)))
   refine wpList_nil ?_
   unfold onlyN
   refine hK_.out _ _ inferInstance (fun _ => ?_)
   clear hK_ K_
   try simp only [Act.put, sA, sB, sC]
   refine goH (i := 7) (by kernel_rfl) rfl (fun K_ hK_ => ?_)
   go_simp
   refine (fields2 (z := zc) (hL6.later (stepN (w0 := w6)).chg (fun _ _ h => h)) (hL7.later (stepN (w0 := w7)).chg (fun _ _ h => h))).mono ?_
   rintro e w8 ⟨f8, caps8, T8, rfl, _, hL8, hT8⟩
   have hzc : wzw.heap.size ≤ zc := (NewA.monoS (w0 := wzw) (NewA.of_born (z := zc) 0)).out ⟨zc, 0, none⟩ rfl
   obtain ⟨f9, caps9, he9, hent, hrun⟩ := hL8.run
   injection he9 with e1 _ e2
   injection e1 with e1
   subst e1 e2
   have hw8 : WrAt w8 zw none [] := ⟨⟨0, 0, rfl, (inferInstance : HB w8 zw 184 #[.slice none 0 0]).out, Own.nil _ _ _⟩, fun ad h => by cases h⟩
   have hT : ∀ x, Wf zw none x → ¬ T8 x := by
    rintro x (rfl | ⟨ad, e, _⟩) hx
    · rcases hT8 _ hx with h | h | h | h
      · have := Nat.le_trans (stepN (w0 := wzw)).chg.size h; omega
      · omega
      · rcases hT6 _ h with h | h
        · have := Nat.le_trans (stepN (w0 := wzw)).chg.size h; omega
        · omega
      · rcases hT7 _ h with h | ⟨hne, ad, e, hk⟩ | ⟨hne, ad, e, hk⟩ | ⟨k, hk, hx⟩
        · have := Nat.le_trans (stepN (w0 := wzw)).chg.size h; omega
        · have := rd_lt HRR.out hne e; omega
        · have := rd_lt HQQ.out hne e; omega
        · have := (HDI.out k hk).low _ hx; omega
    · cases e
   have hlen2 : ([] : List UInt8).length + (encAll [4] ++ tgsB nm v e0 n m P D).length ≤ 1000000000 := by
    have a0 := encRow_len nm (by have := nameL_le HNM.out; omega)
    have a9 := nameL_le HNM.out
    have a8 := encAll_len [(m : Int)]
    have a1 := encAll_len [4]
    unfold tgsB
    have a2 := encAll_len [v, e0]
    have a3 := encAll_len [(n : Int)]
    have a4 := HP.out
    have a5 := HP16.out
    have a6 := HD.out
    have a7 := HD16.out
    simp only [List.length_append, List.length_cons, List.length_nil] at *
    omega
   have HRUN := Lib.hid (hrun w8 zw none [] (Chg.refl _ _) hw8 hT hlen2)
   clear hrun
   refine hK_.out _ _ inferInstance (fun _ => ?_)
   clear hK_ K_
   try simp only [Act.put, sA, sB, sC]
   refine goH (i := 8) (by kernel_rfl) rfl (fun K_ hK_ => ?_)
   go_simp
   refine HRUN.out.mono ?_
   rintro e w9 ⟨rfl, A9, hW9, hC9, hM9⟩
   have st9 : Step (only zw) w8 w9 := ⟨hC9.mono (fun x _ hx => by
    rcases hx with h | ⟨ad, e, _⟩
    · exact h
    · cases e)⟩
   refine hK_.out _ _ inferInstance (fun _ => ?_)
   clear hK_ K_
   try simp only [Act.put, sA, sB, sC]
   refine wpAnyH_done (by kernel_rfl) ?_ _
   have n99 : Nw w w9 := inferInstance
   go_wp2_with fail
   refine (Out_calls zw A9 _ w9 hW9 (by rw [List.length_append]; omega)).mono ?_
   rintro e w10 ⟨A10, n10, c10, rfl, hn, ho, hc, hnew⟩
   have st10 : Step nowhere w9 w10 := ⟨hc.out⟩
   go_wp2_with fail
   go_ret2
   exact ⟨stepN, A10, n10, c10, rfl, by have h9 := hn.out; simpa using h9, ⟨ho.out⟩, ⟨fun ad e => Nat.le_trans n99.out.size (hnew.out ad e)⟩⟩
set_option maxRecDepth 100000 in
theorem EncodeTargets_calls (nm : List UInt8) (v e0 : Int) {A C : Option Addr} {n c m d : Nat} {P : List TargetR} {D : List DeleR} {w : World} [hr : HR w A (cellsOf P)] [hq : HR w C (cellsOf D)] (hl : P.length = n) (hm : D.length = m) (hD : ∀ k ∈ D, DInW w k) (hmax : n ≤ 9223372036854775807) (hmaxm : m ≤ 9223372036854775807) :
    Calls Tryz.prog 28 #[.agg #[.string (strL nm), .int .i64 v, .int .i64 e0, .slice A n c, .slice C m d]] w (EncPost (tgsOk nm v e0 P D) (encAll [4] ++ tgsB nm v e0 n m P D) w) := by
 unfold EncPost
 rcases hb : tgsOk nm v e0 P D with _ | _
 all_goals
  go_enter Tryz.func28, Tryz.ntmps28
  go_wp2_with (first | ((with_reducible apply (wpl_box_agg (dst := some 1))); exact rfl; intro zt wzt _ _ _) | ((with_reducible apply wpl_loadrow); exact rfl; infer_instance; infer_instance; (first | (with_reducible assumption) | (with_reducible exact H32.size _) | (with_reducible exact enc_sz _ rfl) | kernel_rfl)))
  refine (encTgs_calls nm v e0 (P := P) (D := D) hl hm (fun k hk => DInW.nw (w0 := w) (hD k hk)) hmax hmaxm).mono ?_
  rintro e w5 ⟨_, h5⟩
  rw [hb] at h5
 · obtain rfl : e = _ := h5
   go_wp2_with fail
   go_ret2
   exact ⟨stepN, rfl⟩
 · obtain ⟨A1, n1, c1, rfl, hn, hO, hA⟩ := h5
   have HN := Lib.hid hn
   clear hn
   go_wp2_with fail
   go_ret2
   exact ⟨stepN, A1, n1, c1, rfl, by have h9 := HN.out; simpa using h9, hO, NewA.monoS hA⟩
end Go.Proofs.YtgjnjhhhbkidbaaGreat
end
section
open Go Go.RowKit
namespace Go.Proofs.YtgjnjhhhbkidbaaGreat
def tgsEM (nm : List UInt8) (v e0 : Int) (P : List TargetR) (M : List DlM) : List UInt8 := encAll [4] ++ (encRow nm ++ (encAll [v, e0] ++ ((encAll [(P.length : Int)] ++ tgsE P) ++ (encAll [(M.length : Int)] ++ M.flatMap dlME))))
theorem tgsB_m (nm : List UInt8) (v e0 : Int) {n m : Nat} {P : List TargetR} {D : List DeleR} (hl : P.length = n) (hm : D.length = m) : encAll [4] ++ tgsB nm v e0 n m P D = tgsEM nm v e0 P (D.map DeleR.m) := by
 unfold tgsB tgsEM dlsE
 rw [List.length_map, hl, hm, List.flatMap_map]
 rfl
theorem tgsOkM_in {nm : List UInt8} {v e0 : Int} {P : List TargetR} {M : List DlM} (h : tgsOkM nm v e0 P M = true) : nm.length ≤ 12 ∧ (1 ≤ v ∧ v ≤ 1073741824) ∧ (0 ≤ e0 ∧ e0 ≤ 1073741824) ∧ P.length ≤ 16 ∧ (∀ t ∈ P, tgOk t = true) ∧ M.length ≤ 16 ∧ (∀ x ∈ M, dlOkM x = true) := by
 unfold tgsOkM at h
 rw [Bool.and_eq_true, Bool.and_eq_true, Bool.and_eq_true, Bool.and_eq_true, Bool.and_eq_true, Bool.and_eq_true, Bool.and_eq_true, Bool.and_eq_true, decide_eq_true_eq, decide_eq_true_eq] at h
 exact ⟨nameL_le h.1.1.1.1.1.1.1.1, verB_in h.1.1.1.1.1.1.1.2, numB_in h.1.1.1.1.1.1.2, h.1.1.1.1.1.2, List.all_eq_true.1 h.1.1.1.1.2, h.1.1.2, List.all_eq_true.1 h.1.2⟩
theorem kind_fwd {k : Nat} (h : k ≤ 4611686018427387904) (r : List UInt8) : kindS k (encAll [(k : Int)] ++ r) = ⟨r, false⟩ := by
 have hn := numI_fwd (v := (k : Int)) (by omega) (by omega) r
 unfold kindS
 rw [hn, Int.toNat_natCast, if_pos rfl]
theorem at2_fwd {v e0 : Int} (hv : 0 ≤ v ∧ v ≤ 1073741824) (he : 0 ≤ e0 ∧ e0 ≤ 1073741824) (r : List UInt8) : (⟨encAll [v, e0] ++ r, false⟩ : RS).num.1 = v.toNat ∧ ((⟨encAll [v, e0] ++ r, false⟩ : RS).at 1).num.1 = e0.toNat ∧ (⟨encAll [v, e0] ++ r, false⟩ : RS).at 2 = ⟨r, false⟩ := by
 have e : encAll [v, e0] ++ r = encAll [v] ++ (encAll [e0] ++ r) := by
  rw [show [v, e0] = [v] ++ [e0] from rfl, encAll_app, List.append_assoc]
 have h1 := numI_fwd (v := v) hv.1 (by omega) (encAll [e0] ++ r)
 have h2 := numI_fwd (v := e0) he.1 (by omega) r
 have a1 : (⟨encAll [v, e0] ++ r, false⟩ : RS).at 1 = ⟨encAll [e0] ++ r, false⟩ := by
  show (⟨encAll [v, e0] ++ r, false⟩ : RS).num.2 = _
  rw [e, h1]
 refine ⟨by rw [e, h1], by rw [a1, h2], ?_⟩
 show ((⟨encAll [v, e0] ++ r, false⟩ : RS).at 1).num.2 = _
 rw [a1, h2]
theorem tgs_fwd {nm : List UInt8} {v e0 : Int} {P : List TargetR} {M : List DlM} (h : tgsOkM nm v e0 P M = true) (r : List UInt8) : tgN (tgsEM nm v e0 P M ++ r) = nm ∧ (tgVv (tgsEM nm v e0 P M ++ r) : Int) = v ∧ (tgX (tgsEM nm v e0 P M ++ r) : Int) = e0 ∧ tgP (tgsEM nm v e0 P M ++ r) = P ∧ tgD (tgsEM nm v e0 P M ++ r) = M ∧ tgR2 (tgsEM nm v e0 P M ++ r) = ⟨r, false⟩ := by
 obtain ⟨h1, ⟨h2, h3⟩, ⟨h4, h5⟩, h6, h7, h8, h9⟩ := tgsOkM_in h
 have e : tgsEM nm v e0 P M ++ r = encAll [((4 : Nat) : Int)] ++ (encRow nm ++ (encAll [v, e0] ++ (encAll [(P.length : Int)] ++ (P.flatMap tgE ++ (encAll [(M.length : Int)] ++ (M.flatMap dlME ++ r)))))) := by simp [tgsEM, tgsE]
 obtain ⟨l1, l2⟩ := lst_fwd (tk := tgTk) (ef := tgE) 16 P h6 (by omega) (fun x hx r => tg_fwd (h7 x hx) r) (encAll [(M.length : Int)] ++ (M.flatMap dlME ++ r))
 obtain ⟨m1, m2⟩ := lst_fwd (tk := dlTk) (ef := dlME) 16 M h8 (by omega) (fun x hx r => dl_fwd (h9 x hx) r) r
 have hk := kind_fwd (k := 4) (by decide) (encRow nm ++ (encAll [v, e0] ++ (encAll [(P.length : Int)] ++ (P.flatMap tgE ++ (encAll [(M.length : Int)] ++ (M.flatMap dlME ++ r))))))
 have hr := row_fwd nm (encAll [v, e0] ++ (encAll [(P.length : Int)] ++ (P.flatMap tgE ++ (encAll [(M.length : Int)] ++ (M.flatMap dlME ++ r))))) (by omega)
 obtain ⟨a1, a2, a3⟩ := at2_fwd (v := v) (e0 := e0) ⟨by omega, h3⟩ ⟨h4, h5⟩ (encAll [(P.length : Int)] ++ (P.flatMap tgE ++ (encAll [(M.length : Int)] ++ (M.flatMap dlME ++ r))))
 have hs : tgsS (kindS 4 (tgsEM nm v e0 P M ++ r)) = ⟨encAll [(P.length : Int)] ++ (P.flatMap tgE ++ (encAll [(M.length : Int)] ++ (M.flatMap dlME ++ r))), false⟩ := by
  unfold tgsS
  rw [e, hk, hr]
  exact a3
 have h1r : tgR1 (tgsEM nm v e0 P M ++ r) = ⟨encAll [(M.length : Int)] ++ (M.flatMap dlME ++ r), false⟩ := by
  unfold tgR1
  rw [hs, l2]
 refine ⟨?_, ?_, ?_, ?_, ?_, ?_⟩
 · unfold tgN
   rw [e, hk, hr]
 · unfold tgVv
   rw [e, hk, hr]
   show (((⟨_, false⟩ : RS).num.1 : Nat) : Int) = v
   rw [a1]
   omega
 · unfold tgX
   rw [e, hk, hr]
   show ((((⟨_, false⟩ : RS).at 1).num.1 : Nat) : Int) = e0
   rw [a2]
   omega
 · unfold tgP
   rw [hs, l1]
 · unfold tgD
   rw [h1r, m1]
 · unfold tgR2
   rw [h1r, m2]
theorem tgs_back {b : List UInt8} (h : tgsOkB b = true) : tgsOkM (tgN b) (tgVv b) (tgX b) (tgP b) (tgD b) = true ∧ b = tgsEM (tgN b) (tgVv b) (tgX b) (tgP b) (tgD b) := by
 unfold tgsOkB at h
 rw [Bool.and_eq_true] at h
 refine ⟨h.2, ?_⟩
 obtain ⟨h1, h2⟩ := whole_back h.1
 obtain ⟨a1, a2, _⟩ := dlTakes.lst_back (s := tgR1 b) h1
 have h3 : (lstS dlTk 16 (tgR1 b)).b = [] := h2
 rw [h3, List.append_nil] at a2
 obtain ⟨b1, b2, _⟩ := tgTakes.lst_back (s := tgsS (kindS 4 b)) a1
 have hP : tgP b = lstL tgTk 16 (tgsS (kindS 4 b)) := rfl
 have hD : tgD b = lstL dlTk 16 (tgR1 b) := rfl
 have hR : lstS tgTk 16 (tgsS (kindS 4 b)) = tgR1 b := rfl
 rw [← hD] at a2
 rw [← hP, hR, a2] at b2
 have hN : tgN b = (kindS 4 b).row.1 := rfl
 have hV : tgVv b = (kindS 4 b).row.2.num.1 := rfl
 have hX : tgX b = ((kindS 4 b).row.2.at 1).num.1 := rfl
 have hs : tgsS (kindS 4 b) = (kindS 4 b).row.2.at 2 := rfl
 rw [hs] at b1 b2
 rw [hN, hV, hX]
 generalize tgP b = P at *
 generalize tgD b = M at *
 generalize hS : kindS 4 b = S at *
 obtain ⟨c1, c2, c3⟩ := num_back (s := S.row.2.at 1) b1
 obtain ⟨d1, d2, d3⟩ := num_back (s := S.row.2) c1
 obtain ⟨f1, f2⟩ := row_back (s := S) d1
 have hb := kind_back (k := 4) (b := b) (by rw [hS]; exact f1)
 rw [hS] at hb
 have e3 : encAll [(S.row.2.num.1 : Int), ((S.row.2.at 1).num.1 : Int)] = enc S.row.2.num.1 ++ enc (S.row.2.at 1).num.1 := by
  rw [show [(S.row.2.num.1 : Int), ((S.row.2.at 1).num.1 : Int)] = [(S.row.2.num.1 : Int)] ++ [((S.row.2.at 1).num.1 : Int)] from rfl, encAll_app, encN d3, encN c3]
 rw [tgsEM, e3, show encAll [4] = enc 4 from encN (n := 4) (by decide), hb]
 congr 1
 rw [f2]
 congr 1
 rw [d2, List.append_assoc]
 congr 1
 show (S.row.2.at 1).b = _
 rw [c2]
 congr 1
 show (S.row.2.at 2).b = _
 rw [b2]
 simp [tgsE]
theorem tgsB_ok {nm : List UInt8} {v e0 : Int} {P : List TargetR} {M : List DlM} (h : tgsOkM nm v e0 P M = true) (r : List UInt8) : tgsOkB (tgsEM nm v e0 P M ++ r) = decide (r = []) := by
 obtain ⟨h1, h2, h3, h4, h5, h6⟩ := tgs_fwd h r
 unfold tgsOkB
 rw [h1, h2, h3, h4, h5, h6, h, Bool.and_true]
 rfl
theorem tgM_ok {b : List UInt8} : tgsOkB b = true → tgM b = (tgN b, (tgVv b : Int), (tgX b : Int), tgP b, tgD b, 0) := fun h => by rw [tgM, if_pos h]
theorem tgM_fwd {nm : List UInt8} {v e0 : Int} {P : List TargetR} {M : List DlM} (h : tgsOkM nm v e0 P M = true) : tgM (tgsEM nm v e0 P M) = (nm, v, e0, P, M, 0) := by
 have h0 := tgsB_ok h []
 rw [List.append_nil] at h0
 obtain ⟨h1, h2, h3, h4, h5, _⟩ := tgs_fwd h []
 rw [List.append_nil] at h1 h2 h3 h4 h5
 rw [tgM_ok (by rw [h0]; rfl), h1, h2, h3, h4, h5]
end Go.Proofs.YtgjnjhhhbkidbaaGreat
end
section
open Go Go.RowKit
namespace Go.Proofs.YtgjnjhhhbkidbaaGreat
theorem at3_fwd {v e0 s : Int} (hv : 0 ≤ v ∧ v ≤ 1073741824) (he : 0 ≤ e0 ∧ e0 ≤ 1073741824) (hs : 0 ≤ s ∧ s ≤ 1073741824) (r : List UInt8) : (⟨encAll [v, e0, s] ++ r, false⟩ : RS).num.1 = v.toNat ∧ ((⟨encAll [v, e0, s] ++ r, false⟩ : RS).at 1).num.1 = e0.toNat ∧ ((⟨encAll [v, e0, s] ++ r, false⟩ : RS).at 2).num.1 = s.toNat ∧ (⟨encAll [v, e0, s] ++ r, false⟩ : RS).at 3 = ⟨r, false⟩ := by
 have e : encAll [v, e0, s] ++ r = encAll [v, e0] ++ (encAll [s] ++ r) := by
  rw [show [v, e0, s] = [v, e0] ++ [s] from rfl, encAll_app, List.append_assoc]
 obtain ⟨h1, h2, h3⟩ := at2_fwd hv he (encAll [s] ++ r)
 have h4 := numI_fwd (v := s) hs.1 (by omega) r
 rw [← e] at h1 h2 h3
 refine ⟨h1, h2, by rw [h3, h4], ?_⟩
 show ((⟨encAll [v, e0, s] ++ r, false⟩ : RS).at 2).num.2 = _
 rw [h3, h4]
theorem timB_in {v e s : Int} (h : timB v e s = true) : (1 ≤ v ∧ v ≤ 1073741824) ∧ (0 ≤ e ∧ e ≤ 1073741824) ∧ (1 ≤ s ∧ s ≤ 1073741824) := by
 unfold timB at h
 rw [Bool.and_eq_true, Bool.and_eq_true] at h
 exact ⟨verB_in h.1.1, numB_in h.1.2, verB_in h.2⟩
theorem tim_fwd {v e s : Int} (h : timB v e s = true) (hh : H32) : tOk (timE v e s hh) = true ∧ timD (timE v e s hh) = (timL v e s hh).toArray := by
 obtain ⟨h1, h2, h3⟩ := timB_in h
 have q : timE v e s hh = encAll [((2 : Nat) : Int)] ++ (encAll [v, e, s] ++ (hh.l ++ [])) := by simp [timE]
 have hk : kindS 2 (timE v e s hh) = ⟨encAll [v, e, s] ++ (hh.l ++ []), false⟩ := by rw [q, kind_fwd (k := 2) (by decide)]
 obtain ⟨a1, a2, a3, a4⟩ := at3_fwd (v := v) (e0 := e) (s := s) ⟨by omega, h1.2⟩ h2 ⟨by omega, h3.2⟩ (hh.l ++ [])
 have b1 : (tV (kindS 2 (timE v e s hh)) : Int) = v := by rw [hk, tV, a1]; omega
 have b2 : (tE (kindS 2 (timE v e s hh)) : Int) = e := by rw [hk, tE, a2]; omega
 have b3 : (tS (kindS 2 (timE v e s hh)) : Int) = s := by rw [hk, tS, a3]; omega
 have b4 : tH (kindS 2 (timE v e s hh)) = hh := by rw [hk, tH, a4, hsh_fwd]
 have b5 : tR (kindS 2 (timE v e s hh)) = ⟨[], false⟩ := by rw [hk, tR, a4, raw_fwd]
 constructor
 · unfold tOk
   rw [b1, b2, b3, b5, h]
   rfl
 · unfold timD
   rw [b1, b2, b3, b4]
theorem snapOk_in {v e : Int} {P : List PinR} (h : snapOk v e P = true) : (1 ≤ v ∧ v ≤ 1073741824) ∧ (0 ≤ e ∧ e ≤ 1073741824) ∧ P.length ≤ 16 ∧ ∀ p ∈ P, pinOk p = true := by
 unfold snapOk at h
 rw [Bool.and_eq_true, Bool.and_eq_true, Bool.and_eq_true, Bool.and_eq_true, decide_eq_true_eq] at h
 exact ⟨verB_in h.1.1.1.1, numB_in h.1.1.1.2, h.1.1.2, List.all_eq_true.1 h.1.2⟩
theorem pin_fwd {p : PinR} (h : pinOk p = true) (r : List UInt8) : pinTk ⟨pinE p ++ r, false⟩ = (p, ⟨r, false⟩) := by
 unfold pinOk at h
 rw [Bool.and_eq_true] at h
 have h1 := nameL_le h.1
 have h2 := verB_in h.2
 have e : pinE p ++ r = encRow p.l ++ (encAll [p.v] ++ r) := by simp [pinE]
 have s1 := row_fwd p.l (encAll [p.v] ++ r) (by omega)
 have s2 := numI_fwd (v := p.v) (by omega) (by omega) r
 unfold pinTk
 rw [e, s1, s2]
 have hz : (p.v.toNat : Int) = p.v := Int.toNat_of_nonneg (by omega)
 simp only [hz]
theorem snap_fwd {v e : Int} {P : List PinR} (h : snapOk v e P = true) : snM (snapE v e P) = (v, e, P, 0) := by
 obtain ⟨h1, h2, h3, h4⟩ := snapOk_in h
 have q : snapE v e P = encAll [((3 : Nat) : Int)] ++ (encAll [v, e] ++ (encAll [(P.length : Int)] ++ (P.flatMap pinE ++ []))) := by simp [snapE, pinsE]
 have hk : kindS 3 (snapE v e P) = ⟨encAll [v, e] ++ (encAll [(P.length : Int)] ++ (P.flatMap pinE ++ [])), false⟩ := by rw [q, kind_fwd (k := 3) (by decide)]
 obtain ⟨a1, a2, a3⟩ := at2_fwd (v := v) (e0 := e) ⟨by omega, h1.2⟩ h2 (encAll [(P.length : Int)] ++ (P.flatMap pinE ++ []))
 obtain ⟨l1, l2⟩ := lst_fwd (tk := pinTk) (ef := pinE) 16 P h3 (by omega) (fun x hx r => pin_fwd (h4 x hx) r) []
 have b1 : (snV (snapE v e P) : Int) = v := by rw [snV, hk, a1]; omega
 have b2 : (snX (snapE v e P) : Int) = e := by rw [snX, hk, a2]; omega
 have b3 : snS (snapE v e P) = ⟨encAll [(P.length : Int)] ++ (P.flatMap pinE ++ []), false⟩ := by rw [snS, hk, a3]
 have b4 : snP (snapE v e P) = P := by rw [snP, b3, l1]
 have b5 : snR (snapE v e P) = ⟨[], false⟩ := by rw [snR, b3, l2]
 have ho : snOk (snapE v e P) = true := by
  unfold snOk
  rw [b1, b2, b4, b5, h]
  rfl
 rw [snM, if_pos ho, b1, b2, b4]
end Go.Proofs.YtgjnjhhhbkidbaaGreat
end
section
open Go Go.RowKit
namespace Go.Proofs.YtgjnjhhhbkidbaaGreat
section
variable {α : Type} (R : RS → α → RS → Prop)
def RelN (s : RS) : Nat → List α → RS → Prop
 | 0, l, s' => l = [] ∧ s' = s
 | k + 1, l, s' => ∃ l' t x, RelN s k l' t ∧ R t x s' ∧ l = l' ++ [x]
def GotR (most : Nat) (s : RS) (l : List α) (s' : RS) : Prop := ∃ j, j ≤ most + 1 ∧ j ≤ s.num.1 ∧ (j = s.num.1 ∨ j = most + 1 ∨ s'.e = true) ∧ RelN R s.num.2 j l s'
end
section
variable {α : Type} {R : RS → α → RS → Prop} {tk : RS → α × RS} {ef : α → List UInt8}
theorem RelN.len {s : RS} : ∀ {k : Nat} {l : List α} {s' : RS}, RelN R s k l s' → l.length = k
 | 0, l, s', h => by rw [h.1]; rfl
 | k + 1, l, s', h => by
  obtain ⟨l', t, x, h1, _, rfl⟩ := h
  rw [List.length_append, RelN.len h1]
  rfl
theorem RelN.le (hR : ∀ t x s', R t x s' → s'.b.length ≤ t.b.length) {s : RS} : ∀ {k : Nat} {l : List α} {s' : RS}, RelN R s k l s' → s'.b.length ≤ s.b.length
 | 0, l, s', h => by rw [h.2]; exact Nat.le_refl _
 | k + 1, l, s', h => by
  obtain ⟨l', t, x, h1, h2, rfl⟩ := h
  exact Nat.le_trans (hR _ _ _ h2) (RelN.le hR h1)
theorem RelN.prog (ht : Takes tk ef) (hR : ∀ t x s', R t x s' → (tk t).2.e = false → x = (tk t).1 ∧ s' = (tk t).2) {s : RS} : ∀ {k : Nat} {l : List α} {s' : RS}, RelN R s k l s' → (tkS tk s k).e = false → l = tkL tk s k ∧ s' = tkS tk s k
 | 0, l, s', h, _ => h
 | k + 1, l, s', h, he => by
  obtain ⟨l', t, x, h1, h2, rfl⟩ := h
  obtain ⟨rfl, rfl⟩ := RelN.prog ht hR h1 (ht.back _ he).1
  obtain ⟨rfl, rfl⟩ := hR _ _ _ h2 he
  exact ⟨rfl, rfl⟩
theorem GotR.prog (ht : Takes tk ef) (hR : ∀ t x s', R t x s' → (tk t).2.e = false → x = (tk t).1 ∧ s' = (tk t).2) {most : Nat} {s s' : RS} {l : List α} (g : GotR R most s l s') (he : (lstS tk most s).e = false) : l = lstL tk most s ∧ s' = lstS tk most s := by
 obtain ⟨j, h5, hn, hj, hr⟩ := g
 have h4 : ¬ most < s.num.1 := fun h4 => by
  rw [lstS, if_pos h4] at he
  cases he
 rw [lstS, if_neg h4] at he
 have hje := ht.tkS_mono _ _ _ he hn
 obtain ⟨rfl, rfl⟩ := RelN.prog ht hR hr hje
 have e : j = s.num.1 := by
  rcases hj with h' | h' | h'
  · exact h'
  · omega
  · rw [hje] at h'; cases h'
 rw [lstL, lstS, if_neg h4, if_neg h4, ← e]
 exact ⟨rfl, rfl⟩
end
/-- what the reference takes of what is handed on -/
def GotD (s : RS) (x : DlM) (s' : RS) : Prop := ∃ l need t, GotQ s.row.2 l need t ∧ x = (s.row.1, (l, (need : Int)), t.row.1, decide (t.row.2.num.1 = 1)) ∧ s' = t.row.2.num.2
theorem GotQ.leF {s s' : RS} {l : List H32} {need : Nat} (h : GotQ s l need s') : s'.b.length ≤ s.b.length := by
 obtain ⟨j, _, _, _, _, _, rfl⟩ := h
 exact Nat.le_trans (RS.num_le _) (Nat.le_trans (hS_le _ _) (RS.num_le s))
theorem GotD.le (s : RS) (x : DlM) (s' : RS) (h : GotD s x s') : s'.b.length ≤ s.b.length := by
 obtain ⟨l, need, t, h1, _, rfl⟩ := h
 exact Nat.le_trans (RS.num_le _) (Nat.le_trans (RS.row_le _) (Nat.le_trans h1.leF (RS.row_le _)))
theorem fgS_e {s : RS} (h : (fgS s).e = false) : fgS s = s.num.2 := by
 unfold fgS at *
 split
 · rename_i h1
   rw [if_pos h1] at h
   cases h
 · rfl
theorem GotD.prog (s : RS) (x : DlM) (s' : RS) (h : GotD s x s') (he : (dlTk s).2.e = false) : x = (dlTk s).1 ∧ s' = (dlTk s).2 := by
 obtain ⟨l, need, t, h1, rfl, rfl⟩ := h
 have he' : (fgS (kR s.row.2).row.2).e = false := he
 have d1 := (fg_back (s := (kR s.row.2).row.2) he').1
 have c1 := (row_back (s := kR s.row.2) d1).1
 obtain ⟨rfl, rfl, rfl⟩ := h1.prog c1
 refine ⟨rfl, ?_⟩
 show _ = fgS (kR s.row.2).row.2
 rw [fgS_e he']
/-- the reference takes what the program takes -/
theorem tgs_ref {b : List UInt8} {P : List TargetR} {M : List DlM} {t s' : RS} (h1 : GotL tgTk 16 (tgsS (kindS 4 b)) P t) (h2 : GotR GotD 16 t M s') :
    (wholeB s' && tgsOkM (tgN b) (tgVv b) (tgX b) P M && decide (b = tgsEM (tgN b) (tgVv b) (tgX b) P M)) = tgsOkB b ∧ (tgsOkB b = true → P = tgP b ∧ M = tgD b) := by
 by_cases hk : tgsOkB b = true
 · have h0 := hk
   unfold tgsOkB at h0
   rw [Bool.and_eq_true] at h0
   have he := (whole_back h0.1).1
   have he1 := (dlTakes.lst_back (s := tgR1 b) he).1
   obtain ⟨rfl, rfl⟩ := h1.prog tgTakes he1
   obtain ⟨rfl, rfl⟩ := h2.prog dlTakes GotD.prog he
   refine ⟨?_, fun _ => ⟨rfl, rfl⟩⟩
   rw [hk]
   have e1 : (wholeB (lstS dlTk 16 (lstS tgTk 16 (tgsS (kindS 4 b)))) && tgsOkM (tgN b) (tgVv b) (tgX b) (lstL tgTk 16 (tgsS (kindS 4 b))) (lstL dlTk 16 (lstS tgTk 16 (tgsS (kindS 4 b))))) = true := by rw [Bool.and_eq_true]; exact h0
   rw [e1]
   exact decide_eq_true (tgs_back hk).2
 · refine ⟨?_, fun h => absurd h hk⟩
   rw [Bool.not_eq_true] at hk
   rw [hk, ← Bool.not_eq_true]
   intro h3
   rw [Bool.and_eq_true, Bool.and_eq_true] at h3
   have h4 := tgsB_ok h3.1.2 []
   rw [List.append_nil, ← of_decide_eq_true h3.2, hk] at h4
   cases h4
end Go.Proofs.YtgjnjhhhbkidbaaGreat
end
