/- TyW, EqW, UnA -/
import Derived.Test.YthcleccofccbdaaTwBase
import Derived.Test.YthcleccofccbdaaProg
import Derived.Stop.BytesEq
section
open Go Go.RowKit
namespace Go.Proofs.Ythcleccofccbdaa
instance iTyW_1 : CellT Try.prog 218 := ⟨fun _ => by kernel_rfl, fun _ => by kernel_rfl⟩
instance iTyW_2 : CellT Try.prog 89 := ⟨fun _ => by kernel_rfl, fun _ => by kernel_rfl⟩
instance iTyW_3 : CellT Try.prog 157 := ⟨fun _ => by kernel_rfl, fun _ => by kernel_rfl⟩
instance iTyW_4 : CellT Try.prog 216 := ⟨fun _ => by kernel_rfl, fun _ => by kernel_rfl⟩
instance iTyW_5 : ElemT Try.prog 216 157 1 8 .nilFunc := ⟨⟨Try.underlying216, by kernel_rfl, rfl, by decide⟩⟩
instance iTyW_6 : CellT Try.prog 255 := ⟨fun _ => by kernel_rfl, fun _ => by kernel_rfl⟩
instance iTyW_7 : CellT Try.prog 28 := ⟨fun _ => by kernel_rfl, fun _ => by kernel_rfl⟩
instance iTyW_8 : CellT Try.prog 3 := ⟨fun _ => by kernel_rfl, fun _ => by kernel_rfl⟩
instance iTyW_9 : RowT Try.prog 78 32 := ⟨by kernel_rfl, _, Try.underlying78, rfl⟩
instance iTyW_10 : RowT Try.prog 111 35 := ⟨by kernel_rfl, _, Try.underlying111, rfl⟩
instance iTyW_11 : ZeroT Try.prog 155 #[.slice none 0 0] := ⟨.agg #[.slice none 0 0], fun _ => by kernel_rfl, rfl⟩
instance iTyW_12 : CellT Try.prog 5 := ⟨fun _ => by kernel_rfl, fun _ => by kernel_rfl⟩
instance iTyW_13 : CellT Try.prog 4 := ⟨fun _ => by kernel_rfl, fun _ => by kernel_rfl⟩
instance iTyW_14 : CellT Try.prog 9 := ⟨fun _ => by kernel_rfl, fun _ => by kernel_rfl⟩
instance iTyW_15 : ElemT Try.prog 28 5 1 1 (.int .u8 0) := ⟨⟨Try.underlying28, by kernel_rfl, rfl, by decide⟩⟩
end Go.Proofs.Ythcleccofccbdaa
end
section
open Go Go.RowKit
namespace Go.Proofs.Ythcleccofccbdaa
instance elemEqWH : ElemT Try.prog 22 78 32 32 (.agg (u8s zeroH.l)) := ⟨⟨Try.underlying22, by kernel_rfl, rfl, by decide⟩⟩
instance zeroEqWH : ZeroT Try.prog 78 (u8s zeroH.l) := ⟨.agg (u8s zeroH.l), fun _ => by kernel_rfl, rfl⟩
instance cellEqWR : CellT Try.prog 22 := ⟨fun _ => by kernel_rfl, fun _ => by kernel_rfl⟩
instance iEqW_1 : DecidableEq H32 := fun a b => decidable_of_iff (a.l = b.l) ⟨H32.ext', congrArg _⟩
theorem beq_hash (a b : H32) : (a.l == b.l) = decide (a = b) := by
  rw [Bool.eq_iff_iff]
  simp only [beq_iff_eq, decide_eq_true_eq]
  exact ⟨H32.ext', fun h => by rw [h]⟩
theorem eqlH (a b : H32) (w : World) : (binOp .eql 78 (.agg (u8s a.l)) (.agg (u8s b.l))).run Try.prog w = .ok (.bool (decide (a = b))) w := by
  rw [← beq_hash]
  exact run_eql_bytes (P := Try.prog) w 78 5 32 Try.underlying78 Try.underlying5 Try.sizeOf5 a.l b.l a.len b.len
end Go.Proofs.Ythcleccofccbdaa
end
section
open Go Go.RowKit
namespace Go.Proofs.Ythcleccofccbdaa
def freshB (l : List H32) (i : Nat) : Nat → Bool
  | 0 => true
  | k + 1 => freshB l i k && !decide (hget l i = hget l k)
def allB (l : List H32) : Nat → Bool
  | 0 => true
  | i + 1 => allB l i && freshB l i i
theorem freshB_iff (l : List H32) (i : Nat) : ∀ k, freshB l i k = true ↔ ∀ j, j < k → hget l i ≠ hget l j
  | 0 => by simp [freshB]
  | k + 1 => by
    rw [freshB, Bool.and_eq_true, freshB_iff l i k]
    simp only [Bool.not_eq_true', decide_eq_false_iff_not]
    constructor
    · rintro ⟨h1, h2⟩ j hj
      by_cases hjk : j = k
      · subst hjk; exact h2
      · exact h1 j (by omega)
    · exact fun h => ⟨fun j hj => h j (by omega), h k (by omega)⟩
theorem allB_false (l : List H32) (i : Nat) (h : freshB l i i = false) : ∀ n, i < n → allB l n = false
  | 0, hn => by omega
  | n + 1, hn => by
    rw [allB]
    by_cases hin : i = n
    · subst hin; rw [h, Bool.and_false]
    · rw [allB_false l i h n (by omega), Bool.false_and]
theorem mem_take_iff (l : List H32) (i : Nat) (hi : i < l.length) : (hget l i ∈ l.take i) ↔ freshB l i i = false := by
  rw [← Bool.not_eq_true, freshB_iff, List.mem_iff_getElem]
  constructor
  · rintro ⟨j, hj, e⟩ h
    rw [List.length_take] at hj
    refine h j (by omega) ?_
    rw [← e]
    simp [hget, List.getD_eq_getElem?_getD, show j < l.length by omega]
  · intro h
    apply Classical.byContradiction
    intro hn
    refine h fun j hj e => hn ⟨j, by rw [List.length_take]; omega, ?_⟩
    rw [e]
    simp [hget, List.getD_eq_getElem?_getD, show j < l.length by omega]
set_option maxRecDepth 100000 in
set_option maxHeartbeats 1600000 in
theorem hindex_calls {A : Option Addr} {n c : Nat} {l : List H32} (x : H32) {w : World} [hr : HR w A (cellsOf l)] (hl : l.length = n) (hmax : n ≤ 1000000000) :
    Calls Try.prog 227 #[.slice A n c, .agg (u8s x.l)] w fun e w' => ∃ r : Int, e = .returned (.int .i64 r) ∧ (0 ≤ r ↔ x ∈ l) ∧ Step nowhere w w' := by
  have hq := eqlH
  have HL := Lib.hid hl
  go_enter Try.func227, Try.ntmps227
  go_wp2_with (first | ((with_reducible apply (wpl_box_agg (dst := some 3))); (exact rfl); intro zx wzx _ _ _) | ((with_reducible apply (wpl_box_int (dst := some 3))); (exact rfl); intro zx wzx _ _ _) | ((with_reducible apply (wpl_box_slice (dst := some 3))); (exact rfl); intro zx wzx _ _ _) | ((with_reducible apply (wpl_box_str (dst := some 3))); (exact rfl); intro zx wzx _ _ _) | ((with_reducible apply (wpl_box_bool (dst := some 3))); (exact rfl); intro zx wzx _ _ _) | ((with_reducible apply (wpl_box_ptr (dst := some 3))); (exact rfl); intro zx wzx _ _ _) | ((with_reducible apply wpl_box_agg); (exact rfl); intro z wz _ _ _) | ((with_reducible apply wpl_box_int); (exact rfl); intro z wz _ _ _) | ((with_reducible apply wpl_box_slice); (exact rfl); intro z wz _ _ _) | ((with_reducible apply wpl_box_str); (exact rfl); intro z wz _ _ _) | ((with_reducible apply wpl_box_bool); (exact rfl); intro z wz _ _ _) | ((with_reducible apply wpl_box_ptr); (exact rfl); intro z wz _ _ _) | ((with_reducible apply wpl_loadrow); (exact rfl); infer_instance; infer_instance; (first | (with_reducible assumption) | (with_reducible exact H32.size _) | kernel_rfl)) | ((with_reducible apply wpl_loadcellN); (exact rfl); infer_instance; (exact rfl)))
  go_loopw [8] (fun kv wr => ∃ k : Nat, k ≤ n ∧ kv = .int .i64 (k : Int) ∧ (∀ j, j < k → x ≠ hget l j) ∧ Step nowhere w wr ∧ HB wr zx 78 (u8s x.l)) (fun kv _ => n - (intOf kv).toNat)
  case atStart => exact ⟨0, Nat.zero_le _, rfl, fun j hj => by omega, stepN, inferInstance⟩
  case round =>
    obtain ⟨k, hk, rfl, hj, _, _⟩ := hrel
    have HJ := Lib.hid hj
    clear hj
    by_cases hlt : k < n
    · have hltI : (k : Int) < n := by omega
      have hkl : k < l.length := by omega
      by_cases hx : x = hget l k
      · have hd : decide (x = hget l k) = true := decide_eq_true hx
        have hmem : x ∈ l := by
          rw [hx]
          simp [hget, List.getD_eq_getElem?_getD, hkl]
        have HM := Lib.hid hmem
        clear hx hmem
        go_wp2_with (first | ((with_reducible apply wpl_box_agg); (exact rfl); intro z wz _ _ _) | ((with_reducible apply wpl_box_int); (exact rfl); intro z wz _ _ _) | ((with_reducible apply wpl_box_slice); (exact rfl); intro z wz _ _ _) | ((with_reducible apply wpl_box_str); (exact rfl); intro z wz _ _ _) | ((with_reducible apply wpl_box_bool); (exact rfl); intro z wz _ _ _) | ((with_reducible apply wpl_box_ptr); (exact rfl); intro z wz _ _ _) | ((with_reducible apply wpl_loadrow); (exact rfl); infer_instance; infer_instance; (first | (with_reducible assumption) | (with_reducible exact H32.size _) | kernel_rfl)) | ((with_reducible apply wpl_loadcellN); (exact rfl); infer_instance; (exact rfl)))
        refine wp_region_N (nowhere) (by kernel_rfl) (fun wd _ _ => ?_)
        refine' takeH (i := 0) (v := _) rfl (by kernel_rfl) (by kernel_rfl) (by kernel_rfl) (fun _ _ _ h => h) (yields_of (by rfl) (fun w' _ => ?_)) inferInstance ?_
        rotate_left
        · (first | ((with_reducible apply ev_loadrow); (exact rfl); infer_instance; infer_instance; (first | (with_reducible assumption) | (with_reducible exact H32.size _) | kernel_rfl)) | ((with_reducible apply (ev_loadhash (t := 78))); (exact rfl); infer_instance; infer_instance; (first | (with_reducible assumption) | omega)) | ((with_reducible apply ev_loadcellN); (exact rfl); infer_instance; infer_instance; (exact rfl)) | ((with_reducible apply (ev_loadint (t := 3))); (exact rfl); infer_instance; infer_instance; (first | (with_reducible assumption) | omega)) | ((with_reducible apply (ev_loadbyte (t := 5))); (exact rfl); infer_instance; infer_instance; (first | (with_reducible assumption) | omega)) | (go_simp; try with_reducible rfl))
        try simp only [Act.put, sA]; try simp only [sB, sC]
        refine' takeH (i := 1) (v := _) rfl (by kernel_rfl) (by kernel_rfl) (by kernel_rfl) (fun _ _ _ h => h) (yields_of (by rfl) (fun w' _ => ?_)) inferInstance ?_
        rotate_left
        · (go_simp; try with_reducible rfl)
        try simp only [Act.put, sA]; try simp only [sB, sC]
        refine' takeH (i := 2) (v := _) rfl (by kernel_rfl) (by kernel_rfl) (by kernel_rfl) (fun _ _ _ h => h) (yields_of (by rfl) (fun w' _ => ?_)) inferInstance ?_
        rotate_left
        · (go_simp; try with_reducible rfl)
        try simp only [Act.put, sA]; try simp only [sB, sC]
        refine' takeH (i := 3) (v := _) rfl (by kernel_rfl) (by kernel_rfl) (by kernel_rfl) (fun _ _ _ h => h) (yields_of (by rfl) (fun w' _ => ?_)) inferInstance ?_
        rotate_left
        · (first | ((with_reducible apply ev_indexH'); (exact rfl); (exact rfl); infer_instance; infer_instance; (first | (with_reducible assumption) | omega); (first | (with_reducible assumption) | omega); (first | (with_reducible assumption) | omega)) | ((with_reducible apply ev_indexH); (exact rfl); (exact rfl); infer_instance; infer_instance; (first | (with_reducible assumption) | omega); (first | (with_reducible assumption) | omega)) | (go_simp; try with_reducible rfl))
        try simp only [Act.put, sA]; try simp only [sB, sC]
        refine' takeH (i := 4) (v := _) rfl (by kernel_rfl) (by kernel_rfl) (by kernel_rfl) (fun _ _ _ h => h) (yields_of (by rfl) (fun w' _ => ?_)) inferInstance ?_
        rotate_left
        · (first | ((with_reducible apply ev_loadrow); (exact rfl); infer_instance; infer_instance; (first | (with_reducible assumption) | (with_reducible exact H32.size _) | kernel_rfl)) | ((with_reducible apply (ev_loadhash (t := 78))); (exact rfl); infer_instance; infer_instance; (first | (with_reducible assumption) | omega)) | ((with_reducible apply ev_loadcellN); (exact rfl); infer_instance; infer_instance; (exact rfl)) | ((with_reducible apply (ev_loadint (t := 3))); (exact rfl); infer_instance; infer_instance; (first | (with_reducible assumption) | omega)) | ((with_reducible apply (ev_loadbyte (t := 5))); (exact rfl); infer_instance; infer_instance; (first | (with_reducible assumption) | omega)) | (go_simp; try with_reducible rfl))
        try simp only [Act.put, sA]; try simp only [sB, sC]
        refine' takeH (i := 5) (v := _) rfl (by kernel_rfl) (by kernel_rfl) (by kernel_rfl) (fun _ _ _ h => h) (yields_of (by rfl) (fun w' _ => ?_)) inferInstance ?_
        rotate_left
        · (go_simp; try with_reducible rfl)
        try simp only [Act.put, sA]; try simp only [sB, sC]
        refine wpAnyH_done (by kernel_rfl) ?_ _
        go_wp2_with (first | ((with_reducible apply wpl_box_agg); (exact rfl); intro z wz _ _ _) | ((with_reducible apply wpl_box_int); (exact rfl); intro z wz _ _ _) | ((with_reducible apply wpl_box_slice); (exact rfl); intro z wz _ _ _) | ((with_reducible apply wpl_box_str); (exact rfl); intro z wz _ _ _) | ((with_reducible apply wpl_box_bool); (exact rfl); intro z wz _ _ _) | ((with_reducible apply wpl_box_ptr); (exact rfl); intro z wz _ _ _) | ((with_reducible apply wpl_loadrow); (exact rfl); infer_instance; infer_instance; (first | (with_reducible assumption) | (with_reducible exact H32.size _) | kernel_rfl)) | ((with_reducible apply wpl_loadcellN); (exact rfl); infer_instance; (exact rfl)))
        go_ret
        exact ⟨_, rfl, ⟨fun _ => HM.out, fun _ => by omega⟩, stepN⟩
      · have hd : decide (x = hget l k) = false := decide_eq_false hx
        have HX := Lib.hid hx
        clear hx
        go_wp2_with (first | ((with_reducible apply wpl_box_agg); (exact rfl); intro z wz _ _ _) | ((with_reducible apply wpl_box_int); (exact rfl); intro z wz _ _ _) | ((with_reducible apply wpl_box_slice); (exact rfl); intro z wz _ _ _) | ((with_reducible apply wpl_box_str); (exact rfl); intro z wz _ _ _) | ((with_reducible apply wpl_box_bool); (exact rfl); intro z wz _ _ _) | ((with_reducible apply wpl_box_ptr); (exact rfl); intro z wz _ _ _) | ((with_reducible apply wpl_loadrow); (exact rfl); infer_instance; infer_instance; (first | (with_reducible assumption) | (with_reducible exact H32.size _) | kernel_rfl)) | ((with_reducible apply wpl_loadcellN); (exact rfl); infer_instance; (exact rfl)))
        refine wp_region_N (nowhere) (by kernel_rfl) (fun wd _ _ => ?_)
        refine' takeH (i := 0) (v := _) rfl (by kernel_rfl) (by kernel_rfl) (by kernel_rfl) (fun _ _ _ h => h) (yields_of (by rfl) (fun w' _ => ?_)) inferInstance ?_
        rotate_left
        · (first | ((with_reducible apply ev_loadrow); (exact rfl); infer_instance; infer_instance; (first | (with_reducible assumption) | (with_reducible exact H32.size _) | kernel_rfl)) | ((with_reducible apply (ev_loadhash (t := 78))); (exact rfl); infer_instance; infer_instance; (first | (with_reducible assumption) | omega)) | ((with_reducible apply ev_loadcellN); (exact rfl); infer_instance; infer_instance; (exact rfl)) | ((with_reducible apply (ev_loadint (t := 3))); (exact rfl); infer_instance; infer_instance; (first | (with_reducible assumption) | omega)) | ((with_reducible apply (ev_loadbyte (t := 5))); (exact rfl); infer_instance; infer_instance; (first | (with_reducible assumption) | omega)) | (go_simp; try with_reducible rfl))
        try simp only [Act.put, sA]; try simp only [sB, sC]
        refine' takeH (i := 1) (v := _) rfl (by kernel_rfl) (by kernel_rfl) (by kernel_rfl) (fun _ _ _ h => h) (yields_of (by rfl) (fun w' _ => ?_)) inferInstance ?_
        rotate_left
        · (go_simp; try with_reducible rfl)
        try simp only [Act.put, sA]; try simp only [sB, sC]
        refine' takeH (i := 2) (v := _) rfl (by kernel_rfl) (by kernel_rfl) (by kernel_rfl) (fun _ _ _ h => h) (yields_of (by rfl) (fun w' _ => ?_)) inferInstance ?_
        rotate_left
        · (go_simp; try with_reducible rfl)
        try simp only [Act.put, sA]; try simp only [sB, sC]
        refine' takeH (i := 3) (v := _) rfl (by kernel_rfl) (by kernel_rfl) (by kernel_rfl) (fun _ _ _ h => h) (yields_of (by rfl) (fun w' _ => ?_)) inferInstance ?_
        rotate_left
        · (first | ((with_reducible apply ev_indexH'); (exact rfl); (exact rfl); infer_instance; infer_instance; (first | (with_reducible assumption) | omega); (first | (with_reducible assumption) | omega); (first | (with_reducible assumption) | omega)) | ((with_reducible apply ev_indexH); (exact rfl); (exact rfl); infer_instance; infer_instance; (first | (with_reducible assumption) | omega); (first | (with_reducible assumption) | omega)) | (go_simp; try with_reducible rfl))
        try simp only [Act.put, sA]; try simp only [sB, sC]
        refine' takeH (i := 4) (v := _) rfl (by kernel_rfl) (by kernel_rfl) (by kernel_rfl) (fun _ _ _ h => h) (yields_of (by rfl) (fun w' _ => ?_)) inferInstance ?_
        rotate_left
        · (first | ((with_reducible apply ev_loadrow); (exact rfl); infer_instance; infer_instance; (first | (with_reducible assumption) | (with_reducible exact H32.size _) | kernel_rfl)) | ((with_reducible apply (ev_loadhash (t := 78))); (exact rfl); infer_instance; infer_instance; (first | (with_reducible assumption) | omega)) | ((with_reducible apply ev_loadcellN); (exact rfl); infer_instance; infer_instance; (exact rfl)) | ((with_reducible apply (ev_loadint (t := 3))); (exact rfl); infer_instance; infer_instance; (first | (with_reducible assumption) | omega)) | ((with_reducible apply (ev_loadbyte (t := 5))); (exact rfl); infer_instance; infer_instance; (first | (with_reducible assumption) | omega)) | (go_simp; try with_reducible rfl))
        try simp only [Act.put, sA]; try simp only [sB, sC]
        refine' takeH (i := 5) (v := _) rfl (by kernel_rfl) (by kernel_rfl) (by kernel_rfl) (fun _ _ _ h => h) (yields_of (by rfl) (fun w' _ => ?_)) inferInstance ?_
        rotate_left
        · (go_simp; try with_reducible rfl)
        try simp only [Act.put, sA]; try simp only [sB, sC]
        refine wpAnyH_done (by kernel_rfl) ?_ _
        go_wp2_with (first | ((with_reducible apply wpl_box_agg); (exact rfl); intro z wz _ _ _) | ((with_reducible apply wpl_box_int); (exact rfl); intro z wz _ _ _) | ((with_reducible apply wpl_box_slice); (exact rfl); intro z wz _ _ _) | ((with_reducible apply wpl_box_str); (exact rfl); intro z wz _ _ _) | ((with_reducible apply wpl_box_bool); (exact rfl); intro z wz _ _ _) | ((with_reducible apply wpl_box_ptr); (exact rfl); intro z wz _ _ _) | ((with_reducible apply wpl_loadrow); (exact rfl); infer_instance; infer_instance; (first | (with_reducible assumption) | (with_reducible exact H32.size _) | kernel_rfl)) | ((with_reducible apply wpl_loadcellN); (exact rfl); infer_instance; (exact rfl)))
        refine ⟨⟨k + 1, by omega, by go_num, fun j hj => ?_, stepN, inferInstance⟩, by simp [intOf]; omega⟩
        by_cases hjk : j = k
        · subst hjk; exact HX.out
        · exact HJ.out j (by omega)
    · have hltI : ¬ (k : Int) < n := by omega
      go_wp2_with (first | ((with_reducible apply wpl_box_agg); (exact rfl); intro z wz _ _ _) | ((with_reducible apply wpl_box_int); (exact rfl); intro z wz _ _ _) | ((with_reducible apply wpl_box_slice); (exact rfl); intro z wz _ _ _) | ((with_reducible apply wpl_box_str); (exact rfl); intro z wz _ _ _) | ((with_reducible apply wpl_box_bool); (exact rfl); intro z wz _ _ _) | ((with_reducible apply wpl_box_ptr); (exact rfl); intro z wz _ _ _) | ((with_reducible apply wpl_loadrow); (exact rfl); infer_instance; infer_instance; (first | (with_reducible assumption) | (with_reducible exact H32.size _) | kernel_rfl)) | ((with_reducible apply wpl_loadcellN); (exact rfl); infer_instance; (exact rfl)))
      go_ret
      refine ⟨_, rfl, ⟨fun h => by simp at h, fun h => ?_⟩, stepN⟩
      obtain ⟨j, hj, e⟩ := List.mem_iff_getElem.1 h
      have := HL.out
      refine absurd ?_ (HJ.out j (by omega))
      rw [← e]
      simp [hget, List.getD_eq_getElem?_getD, hj]
set_option maxRecDepth 100000 in
set_option maxHeartbeats 1600000 in
theorem hcontains_calls {A : Option Addr} {n c : Nat} {l : List H32} (x : H32) {w : World} [hr : HR w A (cellsOf l)] (hl : l.length = n) (hmax : n ≤ 1000000000) :
    Calls Try.prog 197 #[.slice A n c, .agg (u8s x.l)] w fun e w' => e = .returned (.bool (decide (x ∈ l))) ∧ Step nowhere w w' := by
  go_enter Try.func197, Try.ntmps197
  go_wp2_with (first | ((with_reducible apply (wpl_box_agg (dst := some 3))); (exact rfl); intro zx wzx _ _ _) | ((with_reducible apply (wpl_box_int (dst := some 3))); (exact rfl); intro zx wzx _ _ _) | ((with_reducible apply (wpl_box_slice (dst := some 3))); (exact rfl); intro zx wzx _ _ _) | ((with_reducible apply (wpl_box_str (dst := some 3))); (exact rfl); intro zx wzx _ _ _) | ((with_reducible apply (wpl_box_bool (dst := some 3))); (exact rfl); intro zx wzx _ _ _) | ((with_reducible apply (wpl_box_ptr (dst := some 3))); (exact rfl); intro zx wzx _ _ _) | ((with_reducible apply wpl_box_agg); (exact rfl); intro z wz _ _ _) | ((with_reducible apply wpl_box_int); (exact rfl); intro z wz _ _ _) | ((with_reducible apply wpl_box_slice); (exact rfl); intro z wz _ _ _) | ((with_reducible apply wpl_box_str); (exact rfl); intro z wz _ _ _) | ((with_reducible apply wpl_box_bool); (exact rfl); intro z wz _ _ _) | ((with_reducible apply wpl_box_ptr); (exact rfl); intro z wz _ _ _) | ((with_reducible apply wpl_loadrow); (exact rfl); infer_instance; infer_instance; (first | (with_reducible assumption) | (with_reducible exact H32.size _) | kernel_rfl)) | ((with_reducible apply wpl_loadcellN); (exact rfl); infer_instance; (exact rfl)))
  refine (hindex_calls (l := l) x hl hmax).mono ?_
  rintro e w1 ⟨r, rfl, hr, _⟩
  have hd : decide (0 ≤ r) = decide (x ∈ l) := decide_eq_decide.2 hr
  have HD := Lib.hid hd
  clear hd hr
  go_wp2_with (first | ((with_reducible apply wpl_box_agg); (exact rfl); intro z wz _ _ _) | ((with_reducible apply wpl_box_int); (exact rfl); intro z wz _ _ _) | ((with_reducible apply wpl_box_slice); (exact rfl); intro z wz _ _ _) | ((with_reducible apply wpl_box_str); (exact rfl); intro z wz _ _ _) | ((with_reducible apply wpl_box_bool); (exact rfl); intro z wz _ _ _) | ((with_reducible apply wpl_box_ptr); (exact rfl); intro z wz _ _ _) | ((with_reducible apply wpl_loadrow); (exact rfl); infer_instance; infer_instance; (first | (with_reducible assumption) | (with_reducible exact H32.size _) | kernel_rfl)) | ((with_reducible apply wpl_loadcellN); (exact rfl); infer_instance; (exact rfl)))
  go_ret
  refine ⟨?_, stepN⟩
  rw [← HD.out]
  rfl
def isB (l : List H32) (need : Int) : Bool := decide (l.length ≤ 4) && decide (1 ≤ need) && decide (need ≤ l.length) && allB l l.length
end Go.Proofs.Ythcleccofccbdaa
end
