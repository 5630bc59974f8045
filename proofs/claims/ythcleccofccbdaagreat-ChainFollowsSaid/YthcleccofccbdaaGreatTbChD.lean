/- ChD -/
import Derived.Test.YthcleccofccbdaaGreatTbChB
open Go Go.RowKit
namespace Go.Proofs.YthcleccofccbdaaGreat
theorem run_emptyHC (w : World) : (Instr.buildSlice 40 0 #[]).run Tryz.prog w = .ok (.slice (some ⟨w.heap.size, 0, none⟩) 0 0) (w.alloc (.cells (cellsOf ([] : List H32)).toArray 47)) := by kernel_rfl
theorem nilHs (A : Option Addr) (n c : Nat) (w : World) : (binOp .eql 40 (.slice A n c) (.slice none 0 0)).run Tryz.prog w = .ok (.bool A.isNone) w :=
  Lib.run_eql_slice_nil w 40 47 A n c 0 0 Tryz.underlying40
attribute [local go_sem] nilHs
set_option maxRecDepth 100000 in
set_option maxHeartbeats 1600000 in
theorem cloneH_calls {A : Option Addr} {n c : Nat} {l : List H32} {w : World} [h : HR w A (cellsOf l)] (hl : l.length = n) (hm : n ≤ 1000000) :
    Calls Tryz.prog 136 #[.slice A n c] w fun e w' => ∃ A' c', e = .returned (.slice A' n c') ∧ Step nowhere w w' ∧ Hid (Rd w' A' (cellsOf l)) ∧ NewA w A' ∧ n ≤ c' := by
  cases A with
  | none =>
    have hx : l = [] := by
      cases l with
      | nil => rfl
      | cons x l =>
        obtain ⟨ad, h, _⟩ := h.out.lt (by rw [cellsOf_len]; exact Nat.mul_pos (by simp) (by decide))
        cases h
    subst hx
    subst hl
    go_enter Tryz.func136, Tryz.ntmps136
    go_wp2_with fail
    go_ret
    exact ⟨none, 0, rfl, stepN, Lib.hid (Rd.nil _ _), newA_none _, Nat.le_refl _⟩
  | some ad =>
    go_enter Tryz.func136, Tryz.ntmps136
    go_wp2_with (first | ((with_reducible apply (stop_dst (dst := some 5))); (try simp only [Act.put, sA, sB, sC]); ((with_reducible apply (wpl_bslice (dst := some 5))); (exact run_emptyHC _); intro zb wb _ _ _)) | ((with_reducible apply (wpl_appendR (α := H32))); (exact rfl); (exact rfl); infer_instance; (exact HO.ofEmptyH _ _ _); infer_instance; (exact rfl); (exact hl); omega; (decide); (decide); intro A' c' wa _ ho _ hcap))
    go_ret
    exact ⟨A', c', rfl, stepN, Lib.hid (by have h5 := ho.out.rd; simpa using h5), inferInstance, by omega⟩
theorem rt_setslice (v e : Int) (K : List KR) (i : Nat) (A' : Option Addr) (c' : Nat) (h : i < K.length) : (rtL v e K).toArray.setIfInBounds (2 + i * 2) (.slice A' (gt K i).n c') = (rtL v e (K.set i ⟨A', (gt K i).n, c', (gt K i).l, (gt K i).need⟩)).toArray := by
  rw [sA]
  congr 1
  rw [rtL, rtL, show 2 + i * 2 = (i * 2 + 1) + 1 by omega, sB, sB]
  congr 2
  rw [← cellsOf_set K i _ h]
  have h1 := cellsOf_at K i h
  have h2 : cellsOf K = (cellsOf K).take (i * 2) ++ (((cellsOf K).drop (i * 2)).take 2 ++ (cellsOf K).drop (i * 2 + 2)) := by
    rw [← List.drop_drop, List.take_append_drop, List.take_append_drop]
  have h3 : ((cellsOf K).drop (i * 2)).take 2 = [.slice (gt K i).A (gt K i).n (gt K i).c, .int .i64 (gt K i).need] := h1
  have hl : ((cellsOf K).take (i * 2)).length = i * 2 := by
    have h4 := cellsOf_len K
    rw [show RowC.size KR = 2 from rfl] at h4
    rw [List.length_take]
    omega
  show (cellsOf K).set (i * 2) _ = (cellsOf K).take (i * 2) ++ [.slice A' (gt K i).n c', .int .i64 (gt K i).need] ++ (cellsOf K).drop (i * 2 + 2)
  conv => lhs; rw [h2, h3]
  rw [List.set_append_right _ _ (by rw [hl]; exact Nat.le_refl _), hl, Nat.sub_self, List.append_assoc]
  rfl
theorem gt_set {α : Type} [RowC α] (K : List α) (i j : Nat) (x : α) (h : i < K.length) : gt (K.set i x) j = if i = j then x else gt K j := by
  by_cases e : i = j
  · subst e
    simp [gt, List.getD_eq_getElem?_getD, h]
  · simp [gt, List.getD_eq_getElem?_getD, List.getElem?_set_ne e, e]
theorem gt_ext {α β : Type} [RowC α] (f : α → β) (K L : List α) (h : K.length = L.length) (hk : ∀ j, j < K.length → f (gt K j) = f (gt L j)) : K.map f = L.map f := by
  apply List.ext_getElem (by simp [h])
  intro i h1 h2
  rw [List.length_map] at h1 h2
  have := hk i h1
  simpa [gt, List.getD_eq_getElem?_getD, h1, h2] using this
theorem gt_of {α : Type} [RowC α] {K : List α} {p : α → Prop} (h : ∀ j, j < K.length → p (gt K j)) : ∀ k ∈ K, p k := fun k hk => by
  obtain ⟨j, hj, e⟩ := List.mem_iff_getElem.1 hk
  have := h j hj
  rw [← e]
  simpa [gt, List.getD_eq_getElem?_getD, hj] using this
set_option maxRecDepth 100000 in
set_option maxHeartbeats 3200000 in
theorem clone_calls (v e0 : Int) (K : List KR) (h4 : K.length = 4) {w : World} (hK : ∀ k ∈ K, KIn w k) :
    Calls Tryz.prog 78 #[.agg (rtL v e0 K).toArray] w fun e w' => ∃ L, e = .returned (.agg (rtL v e0 L).toArray) ∧ Step nowhere w w' ∧ Hid (L.length = 4 ∧ L.map KR.m = K.map KR.m) ∧ Hid (KsIn w w' L) := by
  have HK := Lib.hid hK
  have H4 := Lib.hid h4
  have hlen := rtL_len v e0 K h4
  have hone := rtL_one v e0 K
  clear hK h4
  go_enter Tryz.func78, Tryz.ntmps78
  go_wp2_with (first | ((with_reducible apply (wpl_box_agg (dst := some 1))); (exact rfl); intro zr wzr _ _ _) | ((with_reducible apply (wpl_alloc (dst := some 2))); intro zo wzo _ _ _))
  have hzo : HB wzo zo 45 (rtL 0 0 noK).toArray := inferInstance
  have hzr : HB wzo zr 45 (rtL v e0 K).toArray := inferInstance
  have hzrl := hzr.out.lt
  have hzol := hzo.out.lt
  have hsz : w.heap.size ≤ wzo.heap.size := (inferInstance : SzLe w wzo).out
  have hzrw : w.heap.size ≤ zr := (NewA.monoS (w0 := w) (NewA.of_born (z := zr) 0)).out ⟨zr, 0, none⟩ rfl
  have orz : OffB (only zr) zo := ⟨fun e => by
    have e' : zo = zr := e
    have h1 := (inferInstance : Born wzr zo).eq
    have h2 := (inferInstance : HB wzr zr 45 (rtL v e0 K).toArray).out.lt
    omega⟩
  have azr : Above w (only zr) := ⟨fun k h => by have h' : k = zr := h; omega⟩
  go_loopw [4] (fun iv wr => ∃ (k : Nat) (L : List KR), k ≤ 4 ∧ iv = .int .i64 (k : Int) ∧ Step nowhere w wr ∧ Hid (Chg (only zr) wzo wr) ∧ HB wr zr 45 (rtL v e0 L).toArray ∧ HB wr zo 45 (rtL 0 0 noK).toArray ∧ Hid (L.length = 4) ∧ Hid (∀ j, j < 4 → (gt L j).m = (gt K j).m) ∧ Hid (∀ j, j < k → KIn wr (gt L j) ∧ NewA wzo (gt L j).A) ∧ Hid (∀ j, k ≤ j → gt L j = gt K j)) (fun iv _ => 4 - (intOf iv).toNat)
  case atStart => exact ⟨0, K, Nat.zero_le _, rfl, stepN, Lib.hid (Chg.refl _ _), hzr, hzo, H4, Lib.hid (fun _ _ => rfl), Lib.hid (fun j hj => absurd hj (Nat.not_lt_zero j)), Lib.hid (fun _ _ => rfl)⟩
  case round =>
    clear hzo hzr
    obtain ⟨k, L, hk, rfl, st, hC, hr, ho, hL4, hm, hin, hold⟩ := hrel
    have nr : Nw w wr := ⟨st.chg⟩
    by_cases hlt : k < 4
    · have hltI : (k : Int) < 4 := by omega
      have hkl : k < L.length := by rw [hL4.out]; exact hlt
      have hkK : k < K.length := by rw [H4.out]; exact hlt
      have hgk : gt L k = gt K k := hold.out k (Nat.le_refl _)
      have hki := KIn.nw (w := wr) (gtK_in HK.out k hkK)
      rw [← hgk] at hki
      have HKI := Lib.hid hki
      have hrk : HR wr (gt L k).A (cellsOf (gt L k).l) := ⟨hki.rd⟩
      have hnt := rt_slice v e0 L k hkl
      have hcs : 2 + k * 2 < (rtL v e0 L).toArray.size := by rw [rtL_len v e0 L hL4.out]; omega
      clear hki hgk
      go_wp2_with (first | ((with_reducible apply (wpl_indexRK (i := k) (m := 4))); (exact rfl); (exact rfl); (exact Tryz.underlying43); (kernel_rfl); (exact hlt)) | ((with_reducible apply (wpl_loadcellN (k := 2 + k * 2))); (exact rfl); (exact hr); (exact hnt)))
      refine (cloneH_calls (l := (gt L k).l) HKI.out.len (Nat.le_trans HKI.out.le (by decide))).mono ?_
      rintro e w5 ⟨A', c', rfl, st5, hrd, hA', hcap⟩
      have hr5 : HB w5 zr 45 (rtL v e0 L).toArray := inferInstance
      have ho5 : HB w5 zo 45 (rtL 0 0 noK).toArray := inferInstance
      have hA5 : NewA wzo A' := ⟨fun ad e => Nat.le_trans hC.out.size (hA'.out ad e)⟩
      go_wp2_with (first | ((with_reducible apply (wpl_indexRK (i := k) (m := 4))); (exact rfl); (exact rfl); (exact Tryz.underlying43); (kernel_rfl); (exact hlt)) | ((with_reducible apply (wpl_storecell (k := 2 + k * 2))); (exact rfl); (exact rfl); (exact hr5); (exact rfl); (exact hcs); intro wk _ hrk6))
      have hr6 : HB wk zr 45 (rtL v e0 (L.set k ⟨A', (gt L k).n, c', (gt L k).l, (gt L k).need⟩)).toArray := HB.row_eqR hrk6 (rt_setslice v e0 L k A' c' hkl)
      clear hrk6
      refine ⟨⟨k + 1, L.set k ⟨A', (gt L k).n, c', (gt L k).l, (gt L k).need⟩, by omega, by go_num, stepN, Lib.hid ?_, hr6, inferInstance, Lib.hid ?_, Lib.hid ?_, Lib.hid ?_, Lib.hid ?_⟩, by simp [intOf]; omega⟩
      · exact (hC.out.trans st5.chg (fun _ _ h => h.elim)).trans (inferInstance : Step (only zr) w5 wk).chg (fun _ _ h => h)
      · rw [List.length_set]; exact hL4.out
      · intro j hj
        rw [gt_set L k j _ hkl]
        split
        · rename_i e
          subst e
          exact hm.out k hj
        · exact hm.out j hj
      · intro j hj
        rw [gt_set L k j _ hkl]
        split
        · refine ⟨⟨?_, HKI.out.len, hcap, HKI.out.le⟩, hA5⟩
          exact hrd.out.chg (inferInstance : Step (only zr) w5 wk).chg (fun _ ad e h => by
            have h' : ad.block = zr := h
            have := hA5.out ad e
            omega)
        · rename_i e
          obtain ⟨h1, h2⟩ := hin.out j (by omega)
          exact ⟨h1.chg ((st5.chg.mono (T := only zr) (fun _ _ h => h.elim)).trans (inferInstance : Step (only zr) w5 wk).chg (fun _ _ h => h)) (fun x ⟨_, ad, e, hx⟩ h => by
            have h' : x = zr := h
            have := h2.out ad e
            omega), h2⟩
      · intro j hj
        rw [gt_set L k j _ hkl, if_neg (by omega)]
        exact hold.out j (by omega)
    · have hltI : ¬ (k : Int) < 4 := by omega
      have hk4 : k = 4 := by omega
      have hlL := rtL_len v e0 L hL4.out
      have hoL := rtL_one v e0 L
      have HIN : Hid (∀ x ∈ L, KIn wr x ∧ NewA wzo x.A) := Lib.hid (gt_of (fun j hj => hin.out j (by rw [hL4.out] at hj; omega)))
      clear hk4
      go_wp2_with (first | ((with_reducible apply wpl_loadrow); (exact rfl); (exact hr); infer_instance; (exact hlL)) | ((with_reducible apply wpl_storerow); (exact rfl); (exact rfl); infer_instance; infer_instance; (first | (with_reducible assumption) | (with_reducible exact H32.size _) | (with_reducible exact enc_sz _ rfl) | kernel_rfl); (first | (with_reducible assumption) | (with_reducible exact H32.size _) | (with_reducible exact enc_sz _ rfl) | kernel_rfl); (first | (with_reducible exact u8s_one _) | (with_reducible assumption) | (with_reducible exact enc_one _) | kernel_rfl); intro ws _ _))
      refine ret_row rfl rfl (n := 10) hlL rfl ⟨L, rfl, stepN, Lib.hid ⟨hL4.out, gt_ext KR.m L K (by rw [hL4.out, H4.out]) (fun j hj => hm.out j (by rw [hL4.out] at hj; exact hj))⟩, Lib.hid ?_⟩
      exact KsIn.first (w1 := wzo) (KsIn.chg (w := wr) HIN.out (inferInstance : Step (only zo) wr ws).chg (fun x h => by have h' : x = zo := h; omega)) hsz
end Go.Proofs.YthcleccofccbdaaGreat
