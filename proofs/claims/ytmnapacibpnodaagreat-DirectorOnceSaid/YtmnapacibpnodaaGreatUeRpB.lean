/- RpA, RpB -/
import Derived.Test.YtmnapacibpnodaaGreatUeTgB
import Derived.Test.YtmnapacibpnodaaGreatUeDrA
section
open Go Go.RowKit
namespace Go.Proofs.YtmnapacibpnodaaGreat
def tgSame (a b : TargetR) : Prop := a.l = b.l ∧ a.ecu = b.ecu
set_option maxRecDepth 100000 in
set_option maxHeartbeats 1600000 in
theorem rcompare_calls (a b : TargetR) (w : World) : Calls Tryz.prog 102 #[.agg (RowC.enc a).toArray, .agg (RowC.enc b).toArray] w fun e w' => ∃ r : Int, e = .returned (.int .i64 r) ∧ ((r < 0 ↔ tgLt a b = true) ∧ (r = 0 ↔ tgSame a b)) ∧ Step nowhere w w' := by
  have hsa : (RowC.enc a).toArray.size = 37 := tgR_len a
  have hsb : (RowC.enc b).toArray.size = 37 := tgR_len b
  have hoa := enc_one a
  have hob := enc_one b
  go_enter Tryz.func102, Tryz.ntmps102
  go_wp2_with (first | ((with_reducible apply (wpl_box_agg (dst := some 2))); (exact rfl); intro za wza _ _ _) | ((with_reducible apply (wpl_box_agg (dst := some 3))); (exact rfl); intro zb wzb _ _ _))
  have hA : HB wzb za 76 (RowC.enc a).toArray := inferInstance
  have hB : HB wzb zb 76 (RowC.enc b).toArray := inferInstance
  refine wp_region_N (nowhere) (by kernel_rfl) (fun wd _ _ => ?_)
  refine' takeH (i := 0) (v := _) rfl (by kernel_rfl) (by kernel_rfl) (by kernel_rfl) (fun _ _ _ h => h) (yields_of (by rfl) (fun w' _ => ?_)) inferInstance ?_
  rotate_left
  · (go_simp; try with_reducible rfl)
  try simp only [Act.put, sA]; try simp only [sB, sC]
  refine' takeH (i := 1) (v := _) rfl (by kernel_rfl) (by kernel_rfl) (by kernel_rfl) (fun _ _ _ h => h) (yields_of (by rfl) (fun w' _ => ?_)) inferInstance ?_
  rotate_left
  · ((with_reducible apply (ev_loadcellN (k := 0))); (exact rfl); infer_instance; infer_instance; (exact tgc_0 _))
  try simp only [Act.put, sA]; try simp only [sB, sC]
  refine' takeH (i := 2) (v := _) rfl (by kernel_rfl) (by kernel_rfl) (by kernel_rfl) (fun _ _ _ h => h) (yields_of (by rfl) (fun w' _ => ?_)) inferInstance ?_
  rotate_left
  · (go_simp; try with_reducible rfl)
  try simp only [Act.put, sA]; try simp only [sB, sC]
  refine' takeH (i := 3) (v := _) rfl (by kernel_rfl) (by kernel_rfl) (by kernel_rfl) (fun _ _ _ h => h) (yields_of (by rfl) (fun w' _ => ?_)) inferInstance ?_
  rotate_left
  · ((with_reducible apply (ev_loadcellN (k := 0))); (exact rfl); infer_instance; infer_instance; (exact tgc_0 _))
  try simp only [Act.put, sA]; try simp only [sB, sC]
  refine' takeH (i := 5) (v := _) rfl (by kernel_rfl) (by kernel_rfl) (by kernel_rfl) (fun _ _ _ h => h) (yields_of (by rfl) (fun w' _ => ?_)) inferInstance ?_
  rotate_left
  · (go_simp; try with_reducible rfl)
  try simp only [Act.put, sA]; try simp only [sB, sC]
  refine' takeH (i := 6) (v := _) rfl (by kernel_rfl) (by kernel_rfl) (by kernel_rfl) (fun _ _ _ h => h) (yields_of (by rfl) (fun w' _ => ?_)) inferInstance ?_
  rotate_left
  · ((with_reducible apply (ev_loadcellN (k := 36))); (exact rfl); infer_instance; infer_instance; (exact tgc_36 _))
  try simp only [Act.put, sA]; try simp only [sB, sC]
  refine' takeH (i := 7) (v := _) rfl (by kernel_rfl) (by kernel_rfl) (by kernel_rfl) (fun _ _ _ h => h) (yields_of (by rfl) (fun w' _ => ?_)) inferInstance ?_
  rotate_left
  · (go_simp; try with_reducible rfl)
  try simp only [Act.put, sA]; try simp only [sB, sC]
  refine' takeH (i := 8) (v := _) rfl (by kernel_rfl) (by kernel_rfl) (by kernel_rfl) (fun _ _ _ h => h) (yields_of (by rfl) (fun w' _ => ?_)) inferInstance ?_
  rotate_left
  · ((with_reducible apply (ev_loadcellN (k := 36))); (exact rfl); infer_instance; infer_instance; (exact tgc_36 _))
  try simp only [Act.put, sA]; try simp only [sB, sC]
  refine goH (i := 4) (by kernel_rfl) rfl (fun K_ hK_ => ?_)
  go_simp
  refine (compareE_calls a.l b.l _).mono ?_
  rintro e w5 ⟨r1, rfl, hr1, rfl⟩
  have HR1 := Lib.hid hr1
  clear hr1
  refine hK_.out _ _ inferInstance (fun _ => ?_)
  clear hK_ K_
  try simp only [Act.put, sA]; try simp only [sB, sC]
  refine goH (i := 9) (by kernel_rfl) rfl (fun K_ hK_ => ?_)
  go_simp
  refine (compareE_calls a.ecu b.ecu _).mono ?_
  rintro e w6 ⟨r2, rfl, hr2, rfl⟩
  have HR2 := Lib.hid hr2
  clear hr2
  refine hK_.out _ _ inferInstance (fun _ => ?_)
  clear hK_ K_
  try simp only [Act.put, sA]; try simp only [sB, sC]
  refine goH (i := 10) (by kernel_rfl) rfl (fun K_ hK_ => ?_)
  rw [if_pos (by kernel_rfl)]
  refine wpr_of_list ?_
  (first | ((with_reducible apply (stop_dst (dst := some 15))); (try simp only [Act.put, sA, sB, sC]); ((with_reducible apply (wpl_bslice (dst := some 15))); (exact run_int2 _ _ _); intro zs wb _ _ _)))
  refine wpList_nil ?_
  unfold onlyN
  refine hK_.out _ _ inferInstance (fun _ => ?_)
  clear hK_ K_
  try simp only [Act.put, sA]; try simp only [sB, sC]
  refine goH (i := 11) (by kernel_rfl) rfl (fun K_ hK_ => ?_)
  go_simp
  refine (cmpOr_calls r1 r2).mono ?_
  obtain ⟨R0, hR0⟩ : ∃ R, R = (if r1 = 0 then r2 else r1) := ⟨_, rfl⟩
  rw [← hR0]
  have HR0 := Lib.hid hR0
  clear hR0
  rintro e w7 ⟨rfl, rfl⟩
  refine hK_.out _ _ inferInstance (fun _ => ?_)
  clear hK_ K_
  try simp only [Act.put, sA]; try simp only [sB, sC]
  refine' takeH (i := 12) (v := _) rfl (by kernel_rfl) (by kernel_rfl) (by kernel_rfl) (fun _ _ _ h => h) (yields_of (by rfl) (fun w' _ => ?_)) inferInstance ?_
  rotate_left
  · (go_simp; try with_reducible rfl)
  try simp only [Act.put, sA]; try simp only [sB, sC]
  refine wpAnyH_done (by kernel_rfl) ?_ _
  go_wp2_with fail
  go_ret
  refine ⟨_, rfl, ⟨?_, ?_⟩, stepN⟩
  · rw [tgLt, HR0.out]
    by_cases h0 : r1 = 0
    · rw [if_pos h0, HR2.out.1]
      have h1 := HR1.out.2.1 h0
      rw [h1, bytesLess_irr]
      simp
    · rw [if_neg h0, HR1.out.1]
      have h1 : a.l ≠ b.l := fun h => h0 (HR1.out.2.2 h)
      simp [h1]
  · rw [tgSame, HR0.out]
    by_cases h0 : r1 = 0
    · rw [if_pos h0, HR2.out.2]
      exact ⟨fun h => ⟨HR1.out.2.1 h0, h⟩, fun h => h.2⟩
    · rw [if_neg h0]
      exact ⟨fun h => absurd h h0, fun h => absurd (HR1.out.2.2 h.1) h0⟩
theorem tgLt_trans (a b c : TargetR) (h1 : tgLt a b = true) (h2 : tgLt b c = true) : tgLt a c = true := by
  unfold tgLt at *
  simp only [Bool.or_eq_true, Bool.and_eq_true, decide_eq_true_eq] at h1 h2 ⊢
  rcases h1 with h1 | ⟨h1, h3⟩ <;> rcases h2 with h2 | ⟨h2, h4⟩
  · exact .inl (bytesLess_trans _ _ _ h1 h2)
  · exact .inl (by rw [← h2]; exact h1)
  · exact .inl (by rw [h1]; exact h2)
  · exact .inr ⟨h1.trans h2, bytesLess_trans _ _ _ h3 h4⟩
/-- the targets rise -/
def RiseR (T : List TargetR) : Prop := ∀ i j, i < j → j < T.length → tgLt (gt T i) (gt T j) = true
def PlcR (T : List TargetR) (x : TargetR) (k : Nat) : Prop := k ≤ T.length ∧ (∀ i, i < k → tgLt (gt T i) x = true) ∧ (∀ i, k ≤ i → i < T.length → tgLt (gt T i) x = false)
def inR (T : List TargetR) (x : TargetR) (k : Nat) : Bool := decide (k < T.length) && (decide ((gt T k).l = x.l) && decide ((gt T k).ecu = x.ecu))
set_option maxRecDepth 100000 in
set_option maxHeartbeats 3200000 in
theorem searchR_calls {A : Option Addr} {n c : Nat} {T : List TargetR} (x : TargetR) {w : World} [hr : HR w A (cellsOf T)] (hl : T.length = n) (hmax : n ≤ 1000000000) (hrise : RiseR T) :
    Calls Tryz.prog 101 #[.slice A n c, .agg (RowC.enc x).toArray, .func (.func 102) #[] #[]] w fun e w' => ∃ k : Nat, e = .returned (.tuple #[.int .i64 (k : Int), .bool (inR T x k)]) ∧ Hid (PlcR T x k) ∧ Step nowhere w w' := by
  have HL := Lib.hid hl
  have HS := Lib.hid hrise
  have hsx : (RowC.enc x).toArray.size = 37 := tgR_len x
  have hox := enc_one x
  have HRR := Lib.hid hr.out
  clear hrise
  go_enter Tryz.func101, Tryz.ntmps101
  go_wp2_with (first | ((with_reducible apply (wpl_box_agg (dst := some 4))); (exact rfl); intro zx wzx _ _ _))
  go_loopw [9, 10] (fun lv hv wr => ∃ lo hi : Nat, lo ≤ hi ∧ hi ≤ n ∧ lv = .int .i64 (lo : Int) ∧ hv = .int .i64 (hi : Int) ∧ Hid (∀ i, i < lo → tgLt (gt T i) x = true) ∧ Hid (∀ i, hi ≤ i → i < T.length → tgLt (gt T i) x = false) ∧ Step nowhere w wr ∧ HB wr zx 76 (RowC.enc x).toArray) (fun lv hv _ => (intOf hv).toNat - (intOf lv).toNat)
  case atStart => exact ⟨0, n, Nat.zero_le _, Nat.le_refl _, rfl, rfl, Lib.hid (fun i h => by omega), Lib.hid (fun i h1 h2 => by omega), stepN, inferInstance⟩
  case round =>
    obtain ⟨lo, hi, hlh, hhn, rfl, rfl, HJ, HK, st, hx⟩ := hrel
    have nr : Nw w wr := ⟨st.chg⟩
    have hrw : HR wr A (cellsOf T) := ⟨HRR.out.later st.chg⟩
    by_cases hlt : lo < hi
    · have hltI : (lo : Int) < (hi : Int) := by omega
      obtain ⟨m, hm⟩ : ∃ m, m = (lo + hi) / 2 := ⟨_, rfl⟩
      have hm1 : lo ≤ m := by omega
      have hm2 : m < hi := by omega
      have hkl : (lo + hi) / 2 < T.length := by omega
      have hmI : (((lo + hi) / 2 : Nat) : Int) = (m : Int) := by omega
      have HM := Lib.hid hm
      clear hm
      go_wp2_with fail
      refine wp_region_N (nowhere) (by kernel_rfl) (fun wd _ _ => ?_)
      refine' takeH (i := 0) (v := _) rfl (by kernel_rfl) (by kernel_rfl) (by kernel_rfl) (fun _ _ _ h => h) (yields_of (by rfl) (fun w' _ => ?_)) inferInstance ?_
      rotate_left
      · (go_simp; try with_reducible rfl)
      try simp only [Act.put, sA]; try simp only [sB, sC]
      refine' takeH (i := 1) (v := _) rfl (by kernel_rfl) (by kernel_rfl) (by kernel_rfl) (fun _ _ _ h => h) (yields_of (by rfl) (fun w' _ => ?_)) inferInstance ?_
      rotate_left
      · (go_simp; try with_reducible rfl)
      try simp only [Act.put, sA]; try simp only [sB, sC]
      refine' takeH (i := 2) (v := _) rfl (by kernel_rfl) (by kernel_rfl) (by kernel_rfl) (fun _ _ _ h => h) (yields_of (by rfl) (fun w' _ => ?_)) inferInstance ?_
      rotate_left
      · (go_simp; try with_reducible rfl)
      try simp only [Act.put, sA]; try simp only [sB, sC]
      refine' takeH (i := 3) (v := _) rfl (by kernel_rfl) (by kernel_rfl) (by kernel_rfl) (fun _ _ _ h => h) (yields_of (by rfl) (fun w' _ => ?_)) inferInstance ?_
      rotate_left
      · ((with_reducible apply (ev_indexE (α := TargetR) (t := 79))); (exact rfl); (exact rfl); infer_instance; infer_instance; (first | (with_reducible assumption) | omega | (focus (simp; done)) | (focus (simp; omega; done)) | decide); (exact rfl); (decide); (first | (with_reducible assumption) | omega | (focus (simp; done)) | (focus (simp; omega; done)) | decide))
      try simp only [Act.put, sA]; try simp only [sB, sC]
      refine' takeH (i := 4) (v := _) rfl (by kernel_rfl) (by kernel_rfl) (by kernel_rfl) (fun _ _ _ h => h) (yields_of (by rfl) (fun w' _ => ?_)) inferInstance ?_
      rotate_left
      · ((with_reducible apply (ev_loadE (α := TargetR) (t := 76))); infer_instance; (exact rfl); infer_instance; (exact rfl); (decide); (first | (with_reducible assumption) | omega | (focus (simp; done)) | (focus (simp; omega; done)) | decide))
      try simp only [Act.put, sA]; try simp only [sB, sC]
      refine' takeH (i := 5) (v := _) rfl (by kernel_rfl) (by kernel_rfl) (by kernel_rfl) (fun _ _ _ h => h) (yields_of (by rfl) (fun w' _ => ?_)) inferInstance ?_
      rotate_left
      · ((with_reducible apply ev_loadrow); (exact rfl); infer_instance; infer_instance; (first | (with_reducible assumption) | (with_reducible exact H32.size _) | (with_reducible exact enc_sz _ rfl) | kernel_rfl))
      try simp only [Act.put, sA]; try simp only [sB, sC]
      refine goH (i := 6) (by kernel_rfl) rfl (fun K_ hK_ => ?_)
      go_simp
      refine (rcompare_calls (gt T ((lo + hi) / 2)) x _).mono ?_
      rw [← HM.out]
      rintro e w5 ⟨v, rfl, hv, st5⟩
      have HV := Lib.hid hv
      clear hv
      refine hK_.out _ _ inferInstance (fun _ => ?_)
      clear hK_ K_
      try simp only [Act.put, sA]; try simp only [sB, sC]
      refine' takeH (i := 7) (v := _) rfl (by kernel_rfl) (by kernel_rfl) (by kernel_rfl) (fun _ _ _ h => h) (yields_of (by rfl) (fun w' _ => ?_)) inferInstance ?_
      rotate_left
      · (go_simp; try with_reducible rfl)
      try simp only [Act.put, sA]; try simp only [sB, sC]
      refine wpAnyH_done (by kernel_rfl) ?_ _
      cases hb : tgLt (gt T m) x
      case true =>
        have hv0 : v < 0 := HV.out.1.2 hb
        have HB1 := Lib.hid hb
        clear hb HV
        go_wp2_with fail
        refine ⟨⟨m + 1, hi, by omega, by omega, by go_num, rfl, Lib.hid (fun i hi' => ?_), HK, stepN, inferInstance⟩, by simp [intOf]; omega⟩
        by_cases e : i = m
        · subst e; exact HB1.out
        · exact tgLt_trans _ _ _ (HS.out i m (by omega) (by have := HL.out; omega)) HB1.out
      case false =>
        have hv0 : ¬ v < 0 := fun h => by rw [HV.out.1.1 h] at hb; cases hb
        have HB1 := Lib.hid hb
        clear hb HV
        go_wp2_with fail
        refine ⟨⟨lo, m, by omega, by omega, rfl, by go_num, HJ, Lib.hid (fun i h1 h2 => ?_), stepN, inferInstance⟩, by simp [intOf]; omega⟩
        by_cases e : i = m
        · subst e; exact HB1.out
        · cases h3 : tgLt (gt T i) x
          · rfl
          · rw [tgLt_trans _ _ _ (HS.out m i (by omega) h2) h3] at HB1
            exact HB1.out
    · have hltI : ¬ (lo : Int) < (hi : Int) := by omega
      obtain rfl : lo = hi := by omega
      by_cases hln : lo < n
      · have hlnI : (lo : Int) < (n : Int) := by omega
        have hkl : lo < T.length := by omega
        go_wp2_with fail
        refine wp_region_N (nowhere) (by kernel_rfl) (fun wd _ _ => ?_)
        refine' takeH (i := 0) (v := _) rfl (by kernel_rfl) (by kernel_rfl) (by kernel_rfl) (fun _ _ _ h => h) (yields_of (by rfl) (fun w' _ => ?_)) inferInstance ?_
        rotate_left
        · (go_simp; try with_reducible rfl)
        try simp only [Act.put, sA]; try simp only [sB, sC]
        refine' takeH (i := 1) (v := _) rfl (by kernel_rfl) (by kernel_rfl) (by kernel_rfl) (fun _ _ _ h => h) (yields_of (by rfl) (fun w' _ => ?_)) inferInstance ?_
        rotate_left
        · (go_simp; try with_reducible rfl)
        try simp only [Act.put, sA]; try simp only [sB, sC]
        refine' takeH (i := 2) (v := _) rfl (by kernel_rfl) (by kernel_rfl) (by kernel_rfl) (fun _ _ _ h => h) (yields_of (by rfl) (fun w' _ => ?_)) inferInstance ?_
        rotate_left
        · (go_simp; try with_reducible rfl)
        try simp only [Act.put, sA]; try simp only [sB, sC]
        refine' takeH (i := 3) (v := _) rfl (by kernel_rfl) (by kernel_rfl) (by kernel_rfl) (fun _ _ _ h => h) (yields_of (by rfl) (fun w' _ => ?_)) inferInstance ?_
        rotate_left
        · (go_simp; try with_reducible rfl)
        try simp only [Act.put, sA]; try simp only [sB, sC]
        refine' takeH (i := 4) (v := _) rfl (by kernel_rfl) (by kernel_rfl) (by kernel_rfl) (fun _ _ _ h => h) (yields_of (by rfl) (fun w' _ => ?_)) inferInstance ?_
        rotate_left
        · (go_simp; try with_reducible rfl)
        try simp only [Act.put, sA]; try simp only [sB, sC]
        refine' takeH (i := 5) (v := _) rfl (by kernel_rfl) (by kernel_rfl) (by kernel_rfl) (fun _ _ _ h => h) (yields_of (by rfl) (fun w' _ => ?_)) inferInstance ?_
        rotate_left
        · (go_simp; try with_reducible rfl)
        try simp only [Act.put, sA]; try simp only [sB, sC]
        refine' takeH (i := 6) (v := _) rfl (by kernel_rfl) (by kernel_rfl) (by kernel_rfl) (fun _ _ _ h => h) (yields_of (by rfl) (fun w' _ => ?_)) inferInstance ?_
        rotate_left
        · (go_simp; try with_reducible rfl)
        try simp only [Act.put, sA]; try simp only [sB, sC]
        refine' takeH (i := 7) (v := _) rfl (by kernel_rfl) (by kernel_rfl) (by kernel_rfl) (fun _ _ _ h => h) (yields_of (by rfl) (fun w' _ => ?_)) inferInstance ?_
        rotate_left
        · (go_simp; try with_reducible rfl)
        try simp only [Act.put, sA]; try simp only [sB, sC]
        refine' takeH (i := 8) (v := _) rfl (by kernel_rfl) (by kernel_rfl) (by kernel_rfl) (fun _ _ _ h => h) (yields_of (by rfl) (fun w' _ => ?_)) inferInstance ?_
        rotate_left
        · ((with_reducible apply (ev_indexE (α := TargetR) (t := 79))); (exact rfl); (exact rfl); infer_instance; infer_instance; (first | (with_reducible assumption) | omega | (focus (simp; done)) | (focus (simp; omega; done)) | decide); (exact rfl); (decide); (first | (with_reducible assumption) | omega | (focus (simp; done)) | (focus (simp; omega; done)) | decide))
        try simp only [Act.put, sA]; try simp only [sB, sC]
        refine' takeH (i := 9) (v := _) rfl (by kernel_rfl) (by kernel_rfl) (by kernel_rfl) (fun _ _ _ h => h) (yields_of (by rfl) (fun w' _ => ?_)) inferInstance ?_
        rotate_left
        · ((with_reducible apply (ev_loadE (α := TargetR) (t := 76))); infer_instance; (exact rfl); infer_instance; (exact rfl); (decide); (first | (with_reducible assumption) | omega | (focus (simp; done)) | (focus (simp; omega; done)) | decide))
        try simp only [Act.put, sA]; try simp only [sB, sC]
        refine' takeH (i := 10) (v := _) rfl (by kernel_rfl) (by kernel_rfl) (by kernel_rfl) (fun _ _ _ h => h) (yields_of (by rfl) (fun w' _ => ?_)) inferInstance ?_
        rotate_left
        · ((with_reducible apply ev_loadrow); (exact rfl); infer_instance; infer_instance; (first | (with_reducible assumption) | (with_reducible exact H32.size _) | (with_reducible exact enc_sz _ rfl) | kernel_rfl))
        try simp only [Act.put, sA]; try simp only [sB, sC]
        refine goH (i := 11) (by kernel_rfl) rfl (fun K_ hK_ => ?_)
        go_simp
        refine (rcompare_calls (gt T lo) x _).mono ?_
        rintro e w5 ⟨v, rfl, hv, st5⟩
        have HV := Lib.hid hv
        clear hv
        refine hK_.out _ _ inferInstance (fun _ => ?_)
        clear hK_ K_
        try simp only [Act.put, sA]; try simp only [sB, sC]
        refine' takeH (i := 12) (v := _) rfl (by kernel_rfl) (by kernel_rfl) (by kernel_rfl) (fun _ _ _ h => h) (yields_of (by rfl) (fun w' _ => ?_)) inferInstance ?_
        rotate_left
        · (go_simp; try with_reducible rfl)
        try simp only [Act.put, sA]; try simp only [sB, sC]
        refine' takeH (i := 13) (v := _) rfl (by kernel_rfl) (by kernel_rfl) (by kernel_rfl) (fun _ _ _ h => h) (yields_of (by rfl) (fun w' _ => ?_)) inferInstance ?_
        rotate_left
        · (go_simp; try with_reducible rfl)
        try simp only [Act.put, sA]; try simp only [sB, sC]
        refine' takeH (i := 14) (v := _) rfl (by kernel_rfl) (by kernel_rfl) (by kernel_rfl) (fun _ _ _ h => h) (yields_of (by rfl) (fun w' _ => ?_)) inferInstance ?_
        rotate_left
        · (go_simp; try with_reducible rfl)
        try simp only [Act.put, sA]; try simp only [sB, sC]
        refine' takeH (i := 15) (v := _) rfl (by kernel_rfl) (by kernel_rfl) (by kernel_rfl) (fun _ _ _ h => h) (yields_of (by rfl) (fun w' _ => ?_)) inferInstance ?_
        rotate_left
        · (go_simp; try with_reducible rfl)
        try simp only [Act.put, sA]; try simp only [sB, sC]
        refine wpAnyH_done (by kernel_rfl) ?_ _
        go_wp2_with fail
        go_ret2
        refine ⟨lo, ?_, Lib.hid ⟨by omega, HJ.out, HK.out⟩, stepN⟩
        have e9 : (v == 0) = inR T x lo := by
          rw [inR, decide_eq_true hkl, Bool.true_and, Bool.eq_iff_iff, beq_iff_eq, Bool.and_eq_true, decide_eq_true_eq, decide_eq_true_eq]
          exact HV.out.2
        rw [← e9]
        rfl
      · have hlnI : ¬ (lo : Int) < (n : Int) := by omega
        go_wp2_with fail
        refine wp_region_N (nowhere) (by kernel_rfl) (fun wd _ _ => ?_)
        refine' takeH (i := 0) (v := _) rfl (by kernel_rfl) (by kernel_rfl) (by kernel_rfl) (fun _ _ _ h => h) (yields_of (by rfl) (fun w' _ => ?_)) inferInstance ?_
        rotate_left
        · (go_simp; try with_reducible rfl)
        try simp only [Act.put, sA]; try simp only [sB, sC]
        refine' takeH (i := 1) (v := _) rfl (by kernel_rfl) (by kernel_rfl) (by kernel_rfl) (fun _ _ _ h => h) (yields_of (by rfl) (fun w' _ => ?_)) inferInstance ?_
        rotate_left
        · (go_simp; try with_reducible rfl)
        try simp only [Act.put, sA]; try simp only [sB, sC]
        refine' takeH (i := 2) (v := _) rfl (by kernel_rfl) (by kernel_rfl) (by kernel_rfl) (fun _ _ _ h => h) (yields_of (by rfl) (fun w' _ => ?_)) inferInstance ?_
        rotate_left
        · (go_simp; try with_reducible rfl)
        try simp only [Act.put, sA]; try simp only [sB, sC]
        refine' takeH (i := 3) (v := _) rfl (by kernel_rfl) (by kernel_rfl) (by kernel_rfl) (fun _ _ _ h => h) (yields_of (by rfl) (fun w' _ => ?_)) inferInstance ?_
        rotate_left
        · (go_simp; try with_reducible rfl)
        try simp only [Act.put, sA]; try simp only [sB, sC]
        refine' takeH (i := 4) (v := _) rfl (by kernel_rfl) (by kernel_rfl) (by kernel_rfl) (fun _ _ _ h => h) (yields_of (by rfl) (fun w' _ => ?_)) inferInstance ?_
        rotate_left
        · (go_simp; try with_reducible rfl)
        try simp only [Act.put, sA]; try simp only [sB, sC]
        refine takeH (i := 5) (v := undef) rfl (by kernel_rfl) (by kernel_rfl) (by kernel_rfl) (fun _ _ _ h => h) (Or.inr ⟨by rfl, rfl⟩) inferInstance ?_
        try simp only [Act.put, sA]; try simp only [sB, sC]
        refine takeH (i := 6) (v := undef) rfl (by kernel_rfl) (by kernel_rfl) (by kernel_rfl) (fun _ _ _ h => h) (Or.inr ⟨by rfl, rfl⟩) inferInstance ?_
        try simp only [Act.put, sA]; try simp only [sB, sC]
        refine takeH (i := 7) (v := undef) rfl (by kernel_rfl) (by kernel_rfl) (by kernel_rfl) (fun _ _ _ h => h) (Or.inr ⟨by rfl, rfl⟩) inferInstance ?_
        try simp only [Act.put, sA]; try simp only [sB, sC]
        refine takeH (i := 8) (v := undef) rfl (by kernel_rfl) (by kernel_rfl) (by kernel_rfl) (fun _ _ _ h => h) (Or.inr ⟨by rfl, rfl⟩) inferInstance ?_
        try simp only [Act.put, sA]; try simp only [sB, sC]
        refine takeH (i := 9) (v := undef) rfl (by kernel_rfl) (by kernel_rfl) (by kernel_rfl) (fun _ _ _ h => h) (Or.inr ⟨by rfl, rfl⟩) inferInstance ?_
        try simp only [Act.put, sA]; try simp only [sB, sC]
        refine takeH (i := 10) (v := undef) rfl (by kernel_rfl) (by kernel_rfl) (by kernel_rfl) (fun _ _ _ h => h) (Or.inr ⟨by rfl, rfl⟩) inferInstance ?_
        try simp only [Act.put, sA]; try simp only [sB, sC]
        refine takeH (i := 11) (v := undef) rfl (by kernel_rfl) (by kernel_rfl) (by kernel_rfl) (fun _ _ _ h => h) (Or.inr ⟨by rfl, rfl⟩) inferInstance ?_
        try simp only [Act.put, sA]; try simp only [sB, sC]
        refine takeH (i := 12) (v := undef) rfl (by kernel_rfl) (by kernel_rfl) (by kernel_rfl) (fun _ _ _ h => h) (Or.inr ⟨by rfl, rfl⟩) inferInstance ?_
        try simp only [Act.put, sA]; try simp only [sB, sC]
        refine' takeH (i := 13) (v := _) rfl (by kernel_rfl) (by kernel_rfl) (by kernel_rfl) (fun _ _ _ h => h) (yields_of (by rfl) (fun w' _ => ?_)) inferInstance ?_
        rotate_left
        · (go_simp; try with_reducible rfl)
        try simp only [Act.put, sA]; try simp only [sB, sC]
        refine' takeH (i := 14) (v := _) rfl (by kernel_rfl) (by kernel_rfl) (by kernel_rfl) (fun _ _ _ h => h) (yields_of (by rfl) (fun w' _ => ?_)) inferInstance ?_
        rotate_left
        · (go_simp; try with_reducible rfl)
        try simp only [Act.put, sA]; try simp only [sB, sC]
        refine' takeH (i := 15) (v := _) rfl (by kernel_rfl) (by kernel_rfl) (by kernel_rfl) (fun _ _ _ h => h) (yields_of (by rfl) (fun w' _ => ?_)) inferInstance ?_
        rotate_left
        · (go_simp; try with_reducible rfl)
        try simp only [Act.put, sA]; try simp only [sB, sC]
        refine wpAnyH_done (by kernel_rfl) ?_ _
        go_wp2_with fail
        go_ret2
        refine ⟨lo, ?_, Lib.hid ⟨by omega, HJ.out, HK.out⟩, stepN⟩
        rw [inR, decide_eq_false (by omega)]
        rfl
end Go.Proofs.YtmnapacibpnodaaGreat
end
section
open Go Go.RowKit
namespace Go.Proofs.YtmnapacibpnodaaGreat
set_option maxRecDepth 100000 in
set_option maxHeartbeats 1600000 in
theorem insE_calls {A : Option Addr} {n c z c2 : Nat} {L : List EnrR} (r : EnrR) {w : World} [ho : HO w 59 71 A n c (cellsOf L)] [hb : HR w (some ⟨z, 0, none⟩) (cellsOf [r])] (hl : L.length = n) (hn : n ≤ 1000000) :
    Calls Tryz.prog 17 #[.slice A n c, .int .i64 (n : Int), .slice (some ⟨z, 0, none⟩) 1 c2] w fun e w' => ∃ A' c', e = .returned (.slice A' (n + 1) c') ∧ Step (rowOf A) w w' ∧ HO w' 59 71 A' (n + 1) c' (cellsOf (L ++ [r])) ∧ Grew w A A' ∧ Hid (n + 1 ≤ c') := by
  have hrl : HR w A (cellsOf L) := ⟨ho.out.rd⟩
  go_enter Tryz.func17, Tryz.ntmps17
  go_wp2_with (first | ((with_reducible apply (wpl_sl_l (k := n))); (exact rfl); (exact rfl); infer_instance; (exact Nat.le_refl _)) | ((with_reducible apply (wpl_appendR (α := EnrR))); (exact rfl); (exact rfl); infer_instance; (exact ho); (exact hb); (exact rfl); (exact rfl); omega; (decide); (decide); intro A2 c3 wa st2 ho2 hG hcap2))
  go_ret
  exact ⟨A2, c3, rfl, st2, ho2, hG, Lib.hid hcap2⟩
set_option maxRecDepth 100000 in
set_option maxHeartbeats 1600000 in
theorem insR_calls {A : Option Addr} {n c z c2 : Nat} {L : List TargetR} (r : TargetR) {w : World} [ho : HO w 76 37 A n c (cellsOf L)] [hb : HR w (some ⟨z, 0, none⟩) (cellsOf [r])] (hl : L.length = n) (hn : n ≤ 1000000) :
    Calls Tryz.prog 81 #[.slice A n c, .int .i64 (n : Int), .slice (some ⟨z, 0, none⟩) 1 c2] w fun e w' => ∃ A' c', e = .returned (.slice A' (n + 1) c') ∧ Step (rowOf A) w w' ∧ HO w' 76 37 A' (n + 1) c' (cellsOf (L ++ [r])) ∧ Grew w A A' ∧ Hid (n + 1 ≤ c') := by
  have hrl : HR w A (cellsOf L) := ⟨ho.out.rd⟩
  go_enter Tryz.func81, Tryz.ntmps81
  go_wp2_with (first | ((with_reducible apply (wpl_sl_l (k := n))); (exact rfl); (exact rfl); infer_instance; (exact Nat.le_refl _)) | ((with_reducible apply (wpl_appendR (α := TargetR))); (exact rfl); (exact rfl); infer_instance; (exact ho); (exact hb); (exact rfl); (exact rfl); omega; (decide); (decide); intro A2 c3 wa st2 ho2 hG hcap2))
  go_ret
  exact ⟨A2, c3, rfl, st2, ho2, hG, Lib.hid hcap2⟩
theorem run_bsE (r : EnrR) (w : World) : (Instr.buildSlice 48 1 #[(0, .agg (RowC.enc r).toArray)]).run Tryz.prog w = .ok (.slice (some ⟨w.heap.size, 0, none⟩) 1 1) (w.alloc (.cells (cellsOf [r]).toArray 59)) := by
  have hs : (RowC.enc r).toArray.size = 71 := RowC.len r
  have hz : ∀ w, (zeroValue 59).run Tryz.prog w = .ok (.agg zeroEn) w := fun _ => by kernel_rfl
  have hi : ∀ w, (sizeOf 59).run Tryz.prog w = .ok 71 w := fun _ => by kernel_rfl
  have hz1 : zeroEn.size = 71 := by kernel_rfl
  have he : (cellsOf [r]).toArray = (RowC.enc r).toArray.toList.toArray := by simp [cellsOf]
  rw [he]
  obtain ⟨Z, hZ⟩ : ∃ Z : Array Value, Z = zeroEn := ⟨_, rfl⟩
  obtain ⟨R, hR⟩ : ∃ R : Array Value, R = (RowC.enc r).toArray := ⟨_, rfl⟩
  rw [← hZ] at hz hz1
  rw [← hR] at hs ⊢
  clear hZ hR he
  unfold Instr.buildSlice
  simp only [Sem.run_bind, run_underlying Tryz.underlying48, Result.andThen_ok, hi]
  obtain ⟨W, hW⟩ : ∃ W : Array Value, W = (Array.range (1 * 71)).map (Z[· % Z.size]!) := ⟨_, rfl⟩
  have hWs : W.size = 71 := by rw [hW]; simp
  have hf : Instr.fill (fun i => some (i * 71, 71)) W [(0, Value.agg R)] = some R.toList.toArray := by
    rw [fill_step _ _ 0 (.agg R) _ (off := 0) (size := 71) rfl hs (by rw [hWs]; decide)]
    have e : lay 0 R W = R.toList.toArray := by
      unfold lay
      congr 1
      simp only [List.take_zero, List.nil_append, Nat.zero_add, hs]
      rw [List.drop_of_length_le (by simp [hWs]), List.append_nil]
    show Instr.fill _ (lay 0 R W) [] = _
    rw [e]
    rfl
  rw [hW] at hf
  simp [hz, Value.cells, hf, newRow]
theorem run_bsR (r : TargetR) (w : World) : (Instr.buildSlice 79 1 #[(0, .agg (RowC.enc r).toArray)]).run Tryz.prog w = .ok (.slice (some ⟨w.heap.size, 0, none⟩) 1 1) (w.alloc (.cells (cellsOf [r]).toArray 76)) := by
  have hs : (RowC.enc r).toArray.size = 37 := RowC.len r
  have hz : ∀ w, (zeroValue 76).run Tryz.prog w = .ok (.agg zeroTg) w := fun _ => by kernel_rfl
  have hi : ∀ w, (sizeOf 76).run Tryz.prog w = .ok 37 w := fun _ => by kernel_rfl
  have hz1 : zeroTg.size = 37 := by kernel_rfl
  have he : (cellsOf [r]).toArray = (RowC.enc r).toArray.toList.toArray := by simp [cellsOf]
  rw [he]
  obtain ⟨Z, hZ⟩ : ∃ Z : Array Value, Z = zeroTg := ⟨_, rfl⟩
  obtain ⟨R, hR⟩ : ∃ R : Array Value, R = (RowC.enc r).toArray := ⟨_, rfl⟩
  rw [← hZ] at hz hz1
  rw [← hR] at hs ⊢
  clear hZ hR he
  unfold Instr.buildSlice
  simp only [Sem.run_bind, run_underlying Tryz.underlying79, Result.andThen_ok, hi]
  obtain ⟨W, hW⟩ : ∃ W : Array Value, W = (Array.range (1 * 37)).map (Z[· % Z.size]!) := ⟨_, rfl⟩
  have hWs : W.size = 37 := by rw [hW]; simp
  have hf : Instr.fill (fun i => some (i * 37, 37)) W [(0, Value.agg R)] = some R.toList.toArray := by
    rw [fill_step _ _ 0 (.agg R) _ (off := 0) (size := 37) rfl hs (by rw [hWs]; decide)]
    have e : lay 0 R W = R.toList.toArray := by
      unfold lay
      congr 1
      simp only [List.take_zero, List.nil_append, Nat.zero_add, hs]
      rw [List.drop_of_length_le (by simp [hWs]), List.append_nil]
    show Instr.fill _ (lay 0 R W) [] = _
    rw [e]
    rfl
  rw [hW] at hf
  simp [hz, Value.cells, hf, newRow]
end Go.Proofs.YtmnapacibpnodaaGreat
end
