/- TgL, FwB, FwD -/
import Derived.Test.YtmnapacibpnodaaGreatUeFwA
import Derived.Test.YtmnapacibpnodaaGreatUeSnD
section
open Go Go.RowKit
namespace Go.Proofs.YtmnapacibpnodaaGreat
/-- the blocks that what is handed on lies in -/
def usedD (D : List DeleR) : Nat → Prop := fun x => ∃ k ∈ D, inRow k.k.A k.k.l x
def inDls (C : Option Addr) (D : List DeleR) : Nat → Prop := fun x => (cellsOf D ≠ [] ∧ rowOf C x) ∨ usedD D x
def dlsE (D : List DeleR) : List UInt8 := D.flatMap dlE
def tgsB (nm : List UInt8) (v e0 : Int) (n m : Nat) (P : List TargetR) (D : List DeleR) : List UInt8 := encRow nm ++ (encAll [v, e0] ++ ((encAll [(n : Int)] ++ tgsE P) ++ (encAll [(m : Int)] ++ dlsE D)))
theorem dlsE_len (D : List DeleR) (h : D.all dlOk = true) : (dlsE D).length ≤ 300 * D.length := by
  induction D with
  | nil => exact Nat.zero_le _
  | cons p P ih =>
    have e : dlsE (p :: P) = dlE p ++ dlsE P := rfl
    rw [List.all_cons, Bool.and_eq_true] at h
    have h1 := ih h.2
    have h2 := h.1
    unfold dlOk at h2
    simp only [Bool.and_eq_true] at h2
    have a1 := encRow_len p.l (by have := nameL_le h2.1.1; omega)
    have a3 := encRow_len p.pre (by have := nameE_le h2.2; omega)
    have b1 := nameL_le h2.1.1
    have b3 := nameE_le h2.2
    have c1 := keyB_len p.k.l p.k.need
    have c2 : p.k.l.length ≤ 4 := by
      have h3 := h2.1.2
      unfold isB at h3
      simp only [Bool.and_eq_true, decide_eq_true_eq] at h3
      exact h3.1.1.1
    have c3 := encAll_len [if p.last then 1 else 0]
    rw [e, List.length_append, List.length_cons, dlE, flagE]
    simp only [List.length_append, List.length_cons, List.length_nil] at *
    omega
theorem tgsOk_in {nm : List UInt8} {v e0 : Int} {P : List TargetR} {D : List DeleR} (h : tgsOk nm v e0 P D = true) : nameL nm = true ∧ P.length ≤ 16 ∧ P.all tgOk = true ∧ D.length ≤ 16 ∧ D.all dlOk = true := by
  unfold tgsOk at h
  rw [Bool.and_eq_true, Bool.and_eq_true, Bool.and_eq_true, Bool.and_eq_true, Bool.and_eq_true, Bool.and_eq_true, Bool.and_eq_true, Bool.and_eq_true, decide_eq_true_eq, decide_eq_true_eq] at h
  exact ⟨h.1.1.1.1.1.1.1.1, h.1.1.1.1.1.2, h.1.1.1.1.2, h.1.1.2, h.1.2⟩
set_option maxRecDepth 100000 in
set_option maxHeartbeats 3200000 in
theorem layTargets_calls (nm : List UInt8) (v e0 : Int) {A C : Option Addr} {n c m d : Nat} {P : List TargetR} {D : List DeleR} {w : World} [hr : HR w A (cellsOf P)] [hq : HR w C (cellsOf D)] (hl : P.length = n) (hm : D.length = m) (hD : ∀ k ∈ D, DIn w k) (hn9 : n ≤ 1000000000) (hm9 : m ≤ 1000000000) :
    Calls Tryz.prog 99 #[.agg #[.string (strL nm), .int .i64 v, .int .i64 e0, .slice A n c, .slice C m d]] w (FldPost w (tgsB nm v e0 n m P D) (fun x => inTgs A P x ∨ inDls C D x)) := by
  have HRR := Lib.hid hr.out
  have HL := Lib.hid hl
  have HQQ := Lib.hid hq.out
  have HM := Lib.hid hm
  have HDI := Lib.hid hD
  clear hl hm hD
  unfold FldPost
  go_enter Tryz.func99, Tryz.ntmps99
  go_wp2_with (first | ((with_reducible apply (wpl_box_agg (dst := some 1))); (exact rfl); intro zt wzt _ _ _))
  have hwz := (stepN (w0 := w) (w := wzt)).chg.size
  refine wp_region_N (nowhere) (by kernel_rfl) (fun wd _ _ => ?_)
  refine' takeH (i := 0) (v := _) rfl (by kernel_rfl) (by kernel_rfl) (by kernel_rfl) (fun _ _ _ h => h) (yields_of (by rfl) (fun w' _ => ?_)) inferInstance ?_
  rotate_left
  · (go_simp; try with_reducible rfl)
  try simp only [Act.put, sA]; try simp only [sB, sC]
  refine' takeH (i := 1) (v := _) rfl (by kernel_rfl) (by kernel_rfl) (by kernel_rfl) (fun _ _ _ h => h) (yields_of (by rfl) (fun w' _ => ?_)) inferInstance ?_
  rotate_left
  · ((with_reducible apply ev_loadcellN); (exact rfl); infer_instance; infer_instance; (exact rfl))
  try simp only [Act.put, sA]; try simp only [sB, sC]
  refine' takeH (i := 3) (v := _) rfl (by kernel_rfl) (by kernel_rfl) (by kernel_rfl) (fun _ _ _ h => h) (yields_of (by rfl) (fun w' _ => ?_)) inferInstance ?_
  rotate_left
  · (go_simp; try with_reducible rfl)
  try simp only [Act.put, sA]; try simp only [sB, sC]
  refine' takeH (i := 4) (v := _) rfl (by kernel_rfl) (by kernel_rfl) (by kernel_rfl) (fun _ _ _ h => h) (yields_of (by rfl) (fun w' _ => ?_)) inferInstance ?_
  rotate_left
  · ((with_reducible apply ev_loadcellN); (exact rfl); infer_instance; infer_instance; (exact rfl))
  try simp only [Act.put, sA]; try simp only [sB, sC]
  refine' takeH (i := 5) (v := _) rfl (by kernel_rfl) (by kernel_rfl) (by kernel_rfl) (fun _ _ _ h => h) (yields_of (by rfl) (fun w' _ => ?_)) inferInstance ?_
  rotate_left
  · (go_simp; try with_reducible rfl)
  try simp only [Act.put, sA]; try simp only [sB, sC]
  refine' takeH (i := 6) (v := _) rfl (by kernel_rfl) (by kernel_rfl) (by kernel_rfl) (fun _ _ _ h => h) (yields_of (by rfl) (fun w' _ => ?_)) inferInstance ?_
  rotate_left
  · ((with_reducible apply ev_loadcellN); (exact rfl); infer_instance; infer_instance; (exact rfl))
  try simp only [Act.put, sA]; try simp only [sB, sC]
  refine' takeH (i := 9) (v := _) rfl (by kernel_rfl) (by kernel_rfl) (by kernel_rfl) (fun _ _ _ h => h) (yields_of (by rfl) (fun w' _ => ?_)) inferInstance ?_
  rotate_left
  · (go_simp; try with_reducible rfl)
  try simp only [Act.put, sA]; try simp only [sB, sC]
  refine' takeH (i := 10) (v := _) rfl (by kernel_rfl) (by kernel_rfl) (by kernel_rfl) (fun _ _ _ h => h) (yields_of (by rfl) (fun w' _ => ?_)) inferInstance ?_
  rotate_left
  · ((with_reducible apply ev_loadcellN); (exact rfl); infer_instance; infer_instance; (exact rfl))
  try simp only [Act.put, sA]; try simp only [sB, sC]
  refine' takeH (i := 12) (v := _) rfl (by kernel_rfl) (by kernel_rfl) (by kernel_rfl) (fun _ _ _ h => h) (yields_of (by rfl) (fun w' _ => ?_)) inferInstance ?_
  rotate_left
  · (go_simp; try with_reducible rfl)
  try simp only [Act.put, sA]; try simp only [sB, sC]
  refine' takeH (i := 13) (v := _) rfl (by kernel_rfl) (by kernel_rfl) (by kernel_rfl) (fun _ _ _ h => h) (yields_of (by rfl) (fun w' _ => ?_)) inferInstance ?_
  rotate_left
  · ((with_reducible apply ev_loadcellN); (exact rfl); infer_instance; infer_instance; (exact rfl))
  try simp only [Act.put, sA]; try simp only [sB, sC]
  refine wpAnyH_ready (rs := [2, 7]) (by kernel_rfl) (by simp) (AllReadyH.cons rfl (fun K_ hK_ => ?_) (AllReadyH.cons rfl (fun K_ hK_ => ?_) AllReadyH.nil))
  focus
    go_simp
    refine (text_calls (strL nm) nm rfl _).mono ?_
    rintro e w4 ⟨f4, caps4, T4, rfl, _, hL4, hT4⟩
    refine hK_.out _ _ inferInstance (fun _ => ?_)
    clear hK_ K_
    try simp only [Act.put, sA]; try simp only [sB, sC]
    refine goH (i := 7) (by kernel_rfl) rfl (fun K_ hK_ => ?_)
    rw [if_pos (by kernel_rfl)]
    refine wpr_of_list ?_
    (first | ((with_reducible apply (stop_dst (dst := some 10))); (try simp only [Act.put, sA, sB, sC]); ((with_reducible apply (wpl_bslice (dst := some 10))); (exact run_int2 _ _ _); intro zb wb _ _ _)) | ((with_reducible apply (stop_dst (dst := some 18))); (try simp only [Act.put, sA, sB, sC]); ((with_reducible apply (wpl_bslice (dst := some 18))); (exact run_fld4 _ _ _ _ _ _ _ _ _); intro zc wb _ _ _)))
    refine wpList_nil ?_
    unfold onlyN
    refine hK_.out _ _ inferInstance (fun _ => ?_)
    clear hK_ K_
    try simp only [Act.put, sA]; try simp only [sB, sC]
    refine goH (i := 8) (by kernel_rfl) rfl (fun K_ hK_ => ?_)
    go_simp
    refine (numsC (z := zb) (vs := [v, e0]) rfl rfl (show 9 * 2 ≤ 1000000000 by decide)).mono ?_
    rintro e w5 ⟨f5, caps5, T5, rfl, _, hL5, hT5⟩
    have hzb : w.heap.size ≤ zb := (NewA.monoS (w0 := w) (NewA.of_born (z := zb) 0)).out ⟨zb, 0, none⟩ rfl
    refine hK_.out _ _ inferInstance (fun _ => ?_)
    clear hK_ K_
    try simp only [Act.put, sA]; try simp only [sB, sC]
    refine goH (i := 11) (by kernel_rfl) rfl (fun K_ hK_ => ?_)
    go_simp
    refine (listT_calls (l := P) tgE nowhere (HRR.out.later (stepN (w0 := w)).chg) HL.out hn9 (fun _ h => h.elim) (fun x _ w1 _ => layTarget_calls x w1)).mono ?_
    rintro e w6 ⟨f6, caps6, T6, rfl, _, hL6, hT6⟩
    refine hK_.out _ _ inferInstance (fun _ => ?_)
    clear hK_ K_
    try simp only [Act.put, sA]; try simp only [sB, sC]
    refine goH (i := 14) (by kernel_rfl) rfl (fun K_ hK_ => ?_)
    go_simp
    refine (listD_calls (l := D) dlE (usedD D) (HQQ.out.later (stepN (w0 := w)).chg) HM.out hm9 (fun x ⟨k, hk, hx⟩ => Nat.lt_of_lt_of_le ((HDI.out k hk).low x hx) (stepN (w0 := w)).chg.size) (fun k hk w1 hc => (layDele_calls k ((KIn.chg (HDI.out k hk) (stepN (w0 := w)).chg (fun _ _ h => h)).chg hc (fun x hx h => h ⟨k, hk, hx⟩))).mono (FldPost.mono rfl (fun x hx => ⟨k, hk, hx⟩)))).mono ?_
    rintro e w7 ⟨f7, caps7, T7, rfl, _, hL7, hT7⟩
    refine hK_.out _ _ inferInstance (fun _ => ?_)
    clear hK_ K_
    try simp only [Act.put, sA]; try simp only [sB, sC]
    refine goH (i := 15) (by kernel_rfl) rfl (fun K_ hK_ => ?_)
    rw [if_pos (by kernel_rfl)]
    refine wpr_of_list ?_
    (first | ((with_reducible apply (stop_dst (dst := some 10))); (try simp only [Act.put, sA, sB, sC]); ((with_reducible apply (wpl_bslice (dst := some 10))); (exact run_int2 _ _ _); intro zb wb _ _ _)) | ((with_reducible apply (stop_dst (dst := some 18))); (try simp only [Act.put, sA, sB, sC]); ((with_reducible apply (wpl_bslice (dst := some 18))); (exact run_fld4 _ _ _ _ _ _ _ _ _); intro zc wb _ _ _)))
    refine wpList_nil ?_
    unfold onlyN
    refine hK_.out _ _ inferInstance (fun _ => ?_)
    clear hK_ K_
    try simp only [Act.put, sA]; try simp only [sB, sC]
    refine goH (i := 16) (by kernel_rfl) rfl (fun K_ hK_ => ?_)
    go_simp
    refine (fields4 (z := zc) (hL4.later (stepN (w0 := w4)).chg (fun _ _ h => h)) (hL5.later (stepN (w0 := w5)).chg (fun _ _ h => h)) (hL6.later (stepN (w0 := w6)).chg (fun _ _ h => h)) (hL7.later (stepN (w0 := w7)).chg (fun _ _ h => h))).mono ?_
    rintro e w8 ⟨f8, caps8, T8, rfl, _, hL8, hT8⟩
    have hzc : w.heap.size ≤ zc := (NewA.monoS (w0 := w) (NewA.of_born (z := zc) 0)).out ⟨zc, 0, none⟩ rfl
    refine hK_.out _ _ inferInstance (fun _ => ?_)
    clear hK_ K_
    try simp only [Act.put, sA]; try simp only [sB, sC]
    refine' takeH (i := 17) (v := _) rfl (by kernel_rfl) (by kernel_rfl) (by kernel_rfl) (fun _ _ _ h => h) (yields_of (by rfl) (fun w' _ => ?_)) inferInstance ?_
    rotate_left
    · (go_simp; try with_reducible rfl)
    try simp only [Act.put, sA]; try simp only [sB, sC]
    refine wpAnyH_done (by kernel_rfl) ?_ _
  rotate_left 1
  focus
    rw [if_pos (by kernel_rfl)]
    refine wpr_of_list ?_
    (first | ((with_reducible apply (stop_dst (dst := some 10))); (try simp only [Act.put, sA, sB, sC]); ((with_reducible apply (wpl_bslice (dst := some 10))); (exact run_int2 _ _ _); intro zb wb _ _ _)) | ((with_reducible apply (stop_dst (dst := some 18))); (try simp only [Act.put, sA, sB, sC]); ((with_reducible apply (wpl_bslice (dst := some 18))); (exact run_fld4 _ _ _ _ _ _ _ _ _); intro zc wb _ _ _)))
    refine wpList_nil ?_
    unfold onlyN
    refine hK_.out _ _ inferInstance (fun _ => ?_)
    clear hK_ K_
    try simp only [Act.put, sA]; try simp only [sB, sC]
    refine goH (i := 2) (by kernel_rfl) rfl (fun K_ hK_ => ?_)
    go_simp
    refine (text_calls (strL nm) nm rfl _).mono ?_
    rintro e w4 ⟨f4, caps4, T4, rfl, _, hL4, hT4⟩
    refine hK_.out _ _ inferInstance (fun _ => ?_)
    clear hK_ K_
    try simp only [Act.put, sA]; try simp only [sB, sC]
    refine goH (i := 8) (by kernel_rfl) rfl (fun K_ hK_ => ?_)
    go_simp
    refine (numsC (z := zb) (vs := [v, e0]) rfl rfl (show 9 * 2 ≤ 1000000000 by decide)).mono ?_
    rintro e w5 ⟨f5, caps5, T5, rfl, _, hL5, hT5⟩
    have hzb : w.heap.size ≤ zb := (NewA.monoS (w0 := w) (NewA.of_born (z := zb) 0)).out ⟨zb, 0, none⟩ rfl
    refine hK_.out _ _ inferInstance (fun _ => ?_)
    clear hK_ K_
    try simp only [Act.put, sA]; try simp only [sB, sC]
    refine goH (i := 11) (by kernel_rfl) rfl (fun K_ hK_ => ?_)
    go_simp
    refine (listT_calls (l := P) tgE nowhere (HRR.out.later (stepN (w0 := w)).chg) HL.out hn9 (fun _ h => h.elim) (fun x _ w1 _ => layTarget_calls x w1)).mono ?_
    rintro e w6 ⟨f6, caps6, T6, rfl, _, hL6, hT6⟩
    refine hK_.out _ _ inferInstance (fun _ => ?_)
    clear hK_ K_
    try simp only [Act.put, sA]; try simp only [sB, sC]
    refine goH (i := 14) (by kernel_rfl) rfl (fun K_ hK_ => ?_)
    go_simp
    refine (listD_calls (l := D) dlE (usedD D) (HQQ.out.later (stepN (w0 := w)).chg) HM.out hm9 (fun x ⟨k, hk, hx⟩ => Nat.lt_of_lt_of_le ((HDI.out k hk).low x hx) (stepN (w0 := w)).chg.size) (fun k hk w1 hc => (layDele_calls k ((KIn.chg (HDI.out k hk) (stepN (w0 := w)).chg (fun _ _ h => h)).chg hc (fun x hx h => h ⟨k, hk, hx⟩))).mono (FldPost.mono rfl (fun x hx => ⟨k, hk, hx⟩)))).mono ?_
    rintro e w7 ⟨f7, caps7, T7, rfl, _, hL7, hT7⟩
    refine hK_.out _ _ inferInstance (fun _ => ?_)
    clear hK_ K_
    try simp only [Act.put, sA]; try simp only [sB, sC]
    refine goH (i := 15) (by kernel_rfl) rfl (fun K_ hK_ => ?_)
    rw [if_pos (by kernel_rfl)]
    refine wpr_of_list ?_
    (first | ((with_reducible apply (stop_dst (dst := some 10))); (try simp only [Act.put, sA, sB, sC]); ((with_reducible apply (wpl_bslice (dst := some 10))); (exact run_int2 _ _ _); intro zb wb _ _ _)) | ((with_reducible apply (stop_dst (dst := some 18))); (try simp only [Act.put, sA, sB, sC]); ((with_reducible apply (wpl_bslice (dst := some 18))); (exact run_fld4 _ _ _ _ _ _ _ _ _); intro zc wb _ _ _)))
    refine wpList_nil ?_
    unfold onlyN
    refine hK_.out _ _ inferInstance (fun _ => ?_)
    clear hK_ K_
    try simp only [Act.put, sA]; try simp only [sB, sC]
    refine goH (i := 16) (by kernel_rfl) rfl (fun K_ hK_ => ?_)
    go_simp
    refine (fields4 (z := zc) (hL4.later (stepN (w0 := w4)).chg (fun _ _ h => h)) (hL5.later (stepN (w0 := w5)).chg (fun _ _ h => h)) (hL6.later (stepN (w0 := w6)).chg (fun _ _ h => h)) (hL7.later (stepN (w0 := w7)).chg (fun _ _ h => h))).mono ?_
    rintro e w8 ⟨f8, caps8, T8, rfl, _, hL8, hT8⟩
    have hzc : w.heap.size ≤ zc := (NewA.monoS (w0 := w) (NewA.of_born (z := zc) 0)).out ⟨zc, 0, none⟩ rfl
    refine hK_.out _ _ inferInstance (fun _ => ?_)
    clear hK_ K_
    try simp only [Act.put, sA]; try simp only [sB, sC]
    refine' takeH (i := 17) (v := _) rfl (by kernel_rfl) (by kernel_rfl) (by kernel_rfl) (fun _ _ _ h => h) (yields_of (by rfl) (fun w' _ => ?_)) inferInstance ?_
    rotate_left
    · (go_simp; try with_reducible rfl)
    try simp only [Act.put, sA]; try simp only [sB, sC]
    refine wpAnyH_done (by kernel_rfl) ?_ _
  rotate_left 1
  all_goals
    go_wp2_with fail
    go_ret
    first | refine ⟨f8, caps8, rfl, stepN, T8, hL8, fun x hx => ?_⟩ | refine ⟨f8, caps8, T8, rfl, stepN, hL8, fun x hx => ?_⟩
    rcases hT8 x hx with h | rfl | h | h | h | h
    · exact .inl (Nat.le_trans (stepN (w0 := w)).chg.size h)
    · exact .inl hzc
    · exact .inl (Nat.le_trans (stepN (w0 := w)).chg.size (hT4 x h))
    · rcases hT5 x h with h | rfl
      · exact .inl (Nat.le_trans (stepN (w0 := w)).chg.size h)
      · exact .inl hzb
    · rcases hT6 x h with h | h | h
      · exact .inl (Nat.le_trans (stepN (w0 := w)).chg.size h)
      · exact .inr (.inl h)
      · exact h.elim
    · rcases hT7 x h with h | h | h
      · exact .inl (Nat.le_trans (stepN (w0 := w)).chg.size h)
      · exact .inr (.inr (.inl h))
      · exact .inr (.inr (.inr h))
set_option maxRecDepth 100000 in
set_option maxHeartbeats 1600000 in
theorem encTgs_calls (nm : List UInt8) (v e0 : Int) {A C : Option Addr} {n c m d : Nat} {P : List TargetR} {D : List DeleR} {w : World} [hr : HR w A (cellsOf P)] [hq : HR w C (cellsOf D)] (hl : P.length = n) (hm : D.length = m) (hD : ∀ k ∈ D, DInW w k) (hmax : n ≤ 9223372036854775807) (hmaxm : m ≤ 9223372036854775807) :
    Calls Tryz.prog 97 #[.int .i64 4, .agg #[.string (strL nm), .int .i64 v, .int .i64 e0, .slice A n c, .slice C m d], .func (.func 98) #[] #[], .func (.func 99) #[] #[]] w (EncPost (tgsOk nm v e0 P D) (encAll [4] ++ tgsB nm v e0 n m P D) w) := by
  have HRR := Lib.hid hr.out
  have HL := Lib.hid hl
  have HQQ := Lib.hid hq.out
  have HM := Lib.hid hm
  have HDW := Lib.hid hD
  clear hl hm hD
  unfold EncPost
  rcases hb : tgsOk nm v e0 P D with _ | _
  · go_enter Tryz.func97, Tryz.ntmps97
    go_wp2_with (first | ((with_reducible apply (wpl_box_agg (dst := some 5))); (exact rfl); intro zt wzt _ _ _) | ((with_reducible apply wpl_loadrow); (exact rfl); infer_instance; infer_instance; (first | (with_reducible assumption) | (with_reducible exact H32.size _) | (with_reducible exact enc_sz _ rfl) | kernel_rfl)))
    refine (isTargets_calls nm v e0 (P := P) (D := D) HL.out HM.out hmax hmaxm (fun k hk => DInW.nw (w0 := w) (HDW.out k hk))).mono ?_
    rw [hb]
    rintro e w5 ⟨rfl, _⟩
    go_wp2_with fail
    go_ret2
    exact ⟨stepN, rfl⟩
  · have hin := tgsOk_in hb
    have HP := Lib.hid (tgsE_len P hin.2.2.1)
    have HP16 := Lib.hid hin.2.1
    have HD := Lib.hid (dlsE_len D hin.2.2.2.2)
    have HD16 := Lib.hid hin.2.2.2.1
    have HNM := Lib.hid hin.1
    have HDI : Hid (∀ k ∈ D, DIn w k) := Lib.hid (fun k hk => ⟨(HDW.out k hk).rd, (HDW.out k hk).len, (HDW.out k hk).cap, by
      have h8 := List.all_eq_true.1 hin.2.2.2.2 k hk
      unfold dlOk isB at h8
      simp only [Bool.and_eq_true, decide_eq_true_eq] at h8
      have h9 := (HDW.out k hk).len
      omega⟩)
    clear hin
    go_enter Tryz.func97, Tryz.ntmps97
    go_wp2_with (first | ((with_reducible apply (wpl_box_agg (dst := some 5))); (exact rfl); intro zt wzt _ _ _) | ((with_reducible apply wpl_loadrow); (exact rfl); infer_instance; infer_instance; (first | (with_reducible assumption) | (with_reducible exact H32.size _) | (with_reducible exact enc_sz _ rfl) | kernel_rfl)))
    refine (isTargets_calls nm v e0 (P := P) (D := D) HL.out HM.out hmax hmaxm (fun k hk => DInW.nw (w0 := w) (HDW.out k hk))).mono ?_
    rw [hb]
    rintro e w5 ⟨rfl, _⟩
    go_wp2_with (first | ((with_reducible apply (wpl_alloc (dst := some 10))); intro zw wzw _ _ _))
    have hzw := (inferInstance : HB wzw zw 187 #[.slice none 0 0]).out.lt
    have n9 : Nw w wzw := inferInstance
    have hzw0 : w.heap.size ≤ zw := (NewA.monoS (w0 := w) (NewA.of_born (z := zw) 0)).out ⟨zw, 0, none⟩ rfl
    have hrz : HR wzw A (cellsOf P) := ⟨HRR.out.later n9.out⟩
    have hqz : HR wzw C (cellsOf D) := ⟨HQQ.out.later n9.out⟩
    refine wp_region_N ((only zw)) (by kernel_rfl) (fun wd _ _ => ?_)
    refine' takeH (i := 0) (v := _) rfl (by kernel_rfl) (by kernel_rfl) (by kernel_rfl) (fun _ _ _ h => h) (yields_of (by rfl) (fun w' _ => ?_)) inferInstance ?_
    rotate_left
    · (go_simp; try with_reducible rfl)
    try simp only [Act.put, sA]; try simp only [sB, sC]
    refine' takeH (i := 3) (v := _) rfl (by kernel_rfl) (by kernel_rfl) (by kernel_rfl) (fun _ _ _ h => h) (yields_of (by rfl) (fun w' _ => ?_)) inferInstance ?_
    rotate_left
    · (go_simp; try with_reducible rfl)
    try simp only [Act.put, sA]; try simp only [sB, sC]
    refine' takeH (i := 4) (v := _) rfl (by kernel_rfl) (by kernel_rfl) (by kernel_rfl) (fun _ _ _ h => h) (yields_of (by rfl) (fun w' _ => ?_)) inferInstance ?_
    rotate_left
    · ((with_reducible apply ev_loadrow); (exact rfl); infer_instance; infer_instance; (first | (with_reducible assumption) | (with_reducible exact H32.size _) | (with_reducible exact enc_sz _ rfl) | kernel_rfl))
    try simp only [Act.put, sA]; try simp only [sB, sC]
    refine goH (i := 1) (by kernel_rfl) rfl (fun K_ hK_ => ?_)
    rw [if_pos (by kernel_rfl)]
    refine wpr_of_list ?_
    (first | ((with_reducible apply (stop_dst (dst := some 16))); (try simp only [Act.put, sA, sB, sC]); ((with_reducible apply (wpl_bslice (dst := some 16))); (exact run_int1 _ _); intro zb wb _ _ _)) | ((with_reducible apply (stop_dst (dst := some 21))); (try simp only [Act.put, sA, sB, sC]); ((with_reducible apply (wpl_bslice (dst := some 21))); (exact run_fld2 _ _ _ _ _); intro zc wb _ _ _)))
    refine wpList_nil ?_
    unfold onlyN
    refine hK_.out _ _ inferInstance (fun _ => ?_)
    clear hK_ K_
    try simp only [Act.put, sA]; try simp only [sB, sC]
    refine goH (i := 2) (by kernel_rfl) rfl (fun K_ hK_ => ?_)
    go_simp
    refine (numsC (z := zb) (vs := [4]) rfl rfl (show 9 * 1 ≤ 1000000000 by decide)).mono ?_
    rintro e w6 ⟨f6, caps6, T6, rfl, _, hL6, hT6⟩
    have hzb : wzw.heap.size ≤ zb := (NewA.monoS (w0 := wzw) (NewA.of_born (z := zb) 0)).out ⟨zb, 0, none⟩ rfl
    refine hK_.out _ _ inferInstance (fun _ => ?_)
    clear hK_ K_
    try simp only [Act.put, sA]; try simp only [sB, sC]
    refine goH (i := 5) (by kernel_rfl) rfl (fun K_ hK_ => ?_)
    go_simp
    refine (layTargets_calls nm v e0 (P := P) (D := D) HL.out HM.out (fun k hk => KIn.chg (HDI.out k hk) (n9.out.trans (stepN (w0 := wzw)).chg (fun _ _ h => h)) (fun _ _ h => h)) (by have h8 := HP16.out; have h9 := HL.out; omega) (by have h8 := HD16.out; have h9 := HM.out; omega)).mono ?_
    rintro e w7 ⟨f7, caps7, T7, rfl, _, hL7, hT7⟩
    refine hK_.out _ _ inferInstance (fun _ => ?_)
    clear hK_ K_
    try simp only [Act.put, sA]; try simp only [sB, sC]
    refine goH (i := 6) (by kernel_rfl) rfl (fun K_ hK_ => ?_)
    rw [if_pos (by kernel_rfl)]
    refine wpr_of_list ?_
    (first | ((with_reducible apply (stop_dst (dst := some 16))); (try simp only [Act.put, sA, sB, sC]); ((with_reducible apply (wpl_bslice (dst := some 16))); (exact run_int1 _ _); intro zb wb _ _ _)) | ((with_reducible apply (stop_dst (dst := some 21))); (try simp only [Act.put, sA, sB, sC]); ((with_reducible apply (wpl_bslice (dst := some 21))); (exact run_fld2 _ _ _ _ _); intro zc wb _ _ _)))
    refine wpList_nil ?_
    unfold onlyN
    refine hK_.out _ _ inferInstance (fun _ => ?_)
    clear hK_ K_
    try simp only [Act.put, sA]; try simp only [sB, sC]
    refine goH (i := 7) (by kernel_rfl) rfl (fun K_ hK_ => ?_)
    go_simp
    refine (fields2 (z := zc) (hL6.later (stepN (w0 := w6)).chg (fun _ _ h => h)) (hL7.later (stepN (w0 := w7)).chg (fun _ _ h => h))).mono ?_
    rintro e w8 ⟨f8, caps8, T8, rfl, _, hL8, hT8⟩
    have hzc : wzw.heap.size ≤ zc := (NewA.monoS (w0 := wzw) (NewA.of_born (z := zc) 0)).out ⟨zc, 0, none⟩ rfl
    obtain ⟨f9, caps9, he9, hent, hrun⟩ := hL8.run
    injection he9 with e1 _ e2
    injection e1 with e1
    subst e1 e2
    have hw8 : WrAt w8 zw none [] := ⟨⟨0, 0, rfl, (inferInstance : HB w8 zw 187 #[.slice none 0 0]).out, Own.nil _ _ _⟩, fun ad h => by cases h⟩
    have hT : ∀ x, Wf zw none x → ¬ T8 x := by
      rintro x (rfl | ⟨ad, e, _⟩) hx
      · rcases hT8 _ hx with h | h | h | h
        · have := Nat.le_trans (stepN (w0 := wzw)).chg.size h; omega
        · omega
        · rcases hT6 _ h with h | h
          · have := Nat.le_trans (stepN (w0 := wzw)).chg.size h; omega
          · omega
        · rcases hT7 _ h with h | ⟨hne, ad, e, hk⟩ | ⟨hne, ad, e, hk⟩ | ⟨k, hk, hx⟩
          · have := Nat.le_trans (stepN (w0 := wzw)).chg.size h; omega
          · have := rd_lt HRR.out hne e; omega
          · have := rd_lt HQQ.out hne e; omega
          · have := (HDI.out k hk).low _ hx; omega
      · cases e
    have hlen2 : ([] : List UInt8).length + (encAll [4] ++ tgsB nm v e0 n m P D).length ≤ 1000000000 := by
      have a0 := encRow_len nm (by have := nameL_le HNM.out; omega)
      have a9 := nameL_le HNM.out
      have a8 := encAll_len [(m : Int)]
      have a1 := encAll_len [4]
      unfold tgsB
      have a2 := encAll_len [v, e0]
      have a3 := encAll_len [(n : Int)]
      have a4 := HP.out
      have a5 := HP16.out
      have a6 := HD.out
      have a7 := HD16.out
      simp only [List.length_append, List.length_cons, List.length_nil] at *
      omega
    have HRUN := Lib.hid (hrun w8 zw none [] (Chg.refl _ _) hw8 hT hlen2)
    clear hrun
    refine hK_.out _ _ inferInstance (fun _ => ?_)
    clear hK_ K_
    try simp only [Act.put, sA]; try simp only [sB, sC]
    refine goH (i := 8) (by kernel_rfl) rfl (fun K_ hK_ => ?_)
    go_simp
    refine HRUN.out.mono ?_
    rintro e w9 ⟨rfl, A9, hW9, hC9, hM9⟩
    have st9 : Step (only zw) w8 w9 := ⟨hC9.mono (fun x _ hx => by
      rcases hx with h | ⟨ad, e, _⟩
      · exact h
      · cases e)⟩
    refine hK_.out _ _ inferInstance (fun _ => ?_)
    clear hK_ K_
    try simp only [Act.put, sA]; try simp only [sB, sC]
    refine wpAnyH_done (by kernel_rfl) ?_ _
    have n99 : Nw w w9 := inferInstance
    go_wp2_with fail
    refine (Out_calls zw A9 _ w9 hW9 (by rw [List.length_append]; omega)).mono ?_
    rintro e w10 ⟨A10, n10, c10, rfl, hn, ho, hc, hnew⟩
    have st10 : Step nowhere w9 w10 := ⟨hc.out⟩
    go_wp2_with fail
    go_ret2
    exact ⟨stepN, A10, n10, c10, rfl, by have h9 := hn.out; simpa using h9, ⟨ho.out⟩, ⟨fun ad e => Nat.le_trans n99.out.size (hnew.out ad e)⟩⟩
set_option maxRecDepth 100000 in
theorem EncodeTargets_calls (nm : List UInt8) (v e0 : Int) {A C : Option Addr} {n c m d : Nat} {P : List TargetR} {D : List DeleR} {w : World} [hr : HR w A (cellsOf P)] [hq : HR w C (cellsOf D)] (hl : P.length = n) (hm : D.length = m) (hD : ∀ k ∈ D, DInW w k) (hmax : n ≤ 9223372036854775807) (hmaxm : m ≤ 9223372036854775807) :
    Calls Tryz.prog 75 #[.agg #[.string (strL nm), .int .i64 v, .int .i64 e0, .slice A n c, .slice C m d]] w (EncPost (tgsOk nm v e0 P D) (encAll [4] ++ tgsB nm v e0 n m P D) w) := by
  unfold EncPost
  rcases hb : tgsOk nm v e0 P D with _ | _
  all_goals
    go_enter Tryz.func75, Tryz.ntmps75
    go_wp2_with (first | ((with_reducible apply (wpl_box_agg (dst := some 1))); (exact rfl); intro zt wzt _ _ _) | ((with_reducible apply wpl_loadrow); (exact rfl); infer_instance; infer_instance; (first | (with_reducible assumption) | (with_reducible exact H32.size _) | (with_reducible exact enc_sz _ rfl) | kernel_rfl)))
    refine (encTgs_calls nm v e0 (P := P) (D := D) hl hm (fun k hk => DInW.nw (w0 := w) (hD k hk)) hmax hmaxm).mono ?_
    rintro e w5 ⟨_, h5⟩
    rw [hb] at h5
  · obtain rfl : e = _ := h5
    go_wp2_with fail
    go_ret2
    exact ⟨stepN, rfl⟩
  · obtain ⟨A1, n1, c1, rfl, hn, hO, hA⟩ := h5
    have HN := Lib.hid hn
    clear hn
    go_wp2_with fail
    go_ret2
    exact ⟨stepN, A1, n1, c1, rfl, by have h9 := HN.out; simpa using h9, hO, NewA.monoS hA⟩
end Go.Proofs.YtmnapacibpnodaaGreat
end
section
open Go Go.RowKit
namespace Go.Proofs.YtmnapacibpnodaaGreat
def tgsEM (nm : List UInt8) (v e0 : Int) (P : List TargetR) (M : List DlM) : List UInt8 := encAll [4] ++ (encRow nm ++ (encAll [v, e0] ++ ((encAll [(P.length : Int)] ++ tgsE P) ++ (encAll [(M.length : Int)] ++ M.flatMap dlME))))
theorem kind_fwd {k : Nat} (h : k ≤ 4611686018427387904) (r : List UInt8) : kindS k (encAll [(k : Int)] ++ r) = ⟨r, false⟩ := by
  have hn := numI_fwd (v := (k : Int)) (by omega) (by omega) r
  unfold kindS
  rw [hn, Int.toNat_natCast, if_pos rfl]
theorem at2_fwd {v e0 : Int} (hv : 0 ≤ v ∧ v ≤ 1073741824) (he : 0 ≤ e0 ∧ e0 ≤ 1073741824) (r : List UInt8) : (⟨encAll [v, e0] ++ r, false⟩ : RS).num.1 = v.toNat ∧ ((⟨encAll [v, e0] ++ r, false⟩ : RS).at 1).num.1 = e0.toNat ∧ (⟨encAll [v, e0] ++ r, false⟩ : RS).at 2 = ⟨r, false⟩ := by
  have e : encAll [v, e0] ++ r = encAll [v] ++ (encAll [e0] ++ r) := by
    rw [show [v, e0] = [v] ++ [e0] from rfl, encAll_app, List.append_assoc]
  have h1 := numI_fwd (v := v) hv.1 (by omega) (encAll [e0] ++ r)
  have h2 := numI_fwd (v := e0) he.1 (by omega) r
  have a1 : (⟨encAll [v, e0] ++ r, false⟩ : RS).at 1 = ⟨encAll [e0] ++ r, false⟩ := by
    show (⟨encAll [v, e0] ++ r, false⟩ : RS).num.2 = _
    rw [e, h1]
  refine ⟨by rw [e, h1], by rw [a1, h2], ?_⟩
  show ((⟨encAll [v, e0] ++ r, false⟩ : RS).at 1).num.2 = _
  rw [a1, h2]
end Go.Proofs.YtmnapacibpnodaaGreat
end
section
open Go Go.RowKit
namespace Go.Proofs.YtmnapacibpnodaaGreat
theorem repB_in {l m : List UInt8} {c k : Int} (h : repB l m c k = true) : l.length ≤ 12 ∧ m.length ≤ 12 ∧ (0 ≤ c ∧ c ≤ 1073741824) ∧ (0 ≤ k ∧ k ≤ 1073741824) := by
  unfold repB at h
  rw [Bool.and_eq_true, Bool.and_eq_true, Bool.and_eq_true] at h
  exact ⟨nameL_le h.1.1.1, nameE_le h.1.1.2, numB_in h.1.2, numB_in h.2⟩
theorem rep_fwd {l m : List UInt8} {c k : Int} (h : repB l m c k = true) (hh : H32) : rOk (repE l m hh c k) = true ∧ repD (repE l m hh c k) = (repL (strL l) (strL m) hh c k).toArray := by
  obtain ⟨h1, h2, h3, h4⟩ := repB_in h
  have q : repE l m hh c k = encAll [((5 : Nat) : Int)] ++ (encRow l ++ (encRow m ++ (hh.l ++ (encAll [c, k] ++ [])))) := by simp [repE]
  have hk : kindS 5 (repE l m hh c k) = ⟨encRow l ++ (encRow m ++ (hh.l ++ (encAll [c, k] ++ []))), false⟩ := by rw [q, kind_fwd (k := 5) (by decide)]
  have r1 := row_fwd l (encRow m ++ (hh.l ++ (encAll [c, k] ++ []))) (by omega)
  have r2 := row_fwd m (hh.l ++ (encAll [c, k] ++ [])) (by omega)
  obtain ⟨a1, a2, a3⟩ := at2_fwd (v := c) (e0 := k) h3 h4 []
  have b1 : rU (kindS 5 (repE l m hh c k)) = l := by rw [hk, rU, r1]
  have b2 : rN (kindS 5 (repE l m hh c k)) = m := by rw [hk, rN, r1, r2]
  have b3 : rS2 (kindS 5 (repE l m hh c k)) = ⟨hh.l ++ (encAll [c, k] ++ []), false⟩ := by rw [hk, rS2, r1, r2]
  have b4 : rH (kindS 5 (repE l m hh c k)) = hh := by rw [rH, b3, hsh_fwd]
  have b5 : rS3 (kindS 5 (repE l m hh c k)) = ⟨encAll [c, k] ++ [], false⟩ := by rw [rS3, b3, raw_fwd]
  have b6 : (rC (kindS 5 (repE l m hh c k)) : Int) = c := by rw [rC, b5, a1]; omega
  have b7 : (rK (kindS 5 (repE l m hh c k)) : Int) = k := by rw [rK, b5, a2]; omega
  have b8 : rR (kindS 5 (repE l m hh c k)) = ⟨[], false⟩ := by rw [rR, b5, a3]
  constructor
  · unfold rOk
    rw [b1, b2, b6, b7, b8, h]
    rfl
  · unfold repD
    rw [b1, b2, b4, b6, b7]
end Go.Proofs.YtmnapacibpnodaaGreat
end
