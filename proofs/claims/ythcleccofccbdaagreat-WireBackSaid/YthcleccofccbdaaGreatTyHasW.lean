/- TyW, EqW, UnA, UnB, HasW -/
import Derived.Test.YthcleccofccbdaaGreatTyBase
import Derived.Test.YthcleccofccbdaaGreatProg
import Derived.Stop.BytesEq
section
open Go Go.RowKit
namespace Go.Proofs.YthcleccofccbdaaGreat
instance iTyW_1 : CellT Tryz.prog 200 := ⟨fun _ => by kernel_rfl, fun _ => by kernel_rfl⟩
instance iTyW_2 : CellT Tryz.prog 167 := ⟨fun _ => by kernel_rfl, fun _ => by kernel_rfl⟩
instance iTyW_3 : CellT Tryz.prog 146 := ⟨fun _ => by kernel_rfl, fun _ => by kernel_rfl⟩
instance iTyW_4 : CellT Tryz.prog 198 := ⟨fun _ => by kernel_rfl, fun _ => by kernel_rfl⟩
instance iTyW_5 : ElemT Tryz.prog 198 146 1 8 .nilFunc := ⟨⟨Tryz.underlying198, by kernel_rfl, rfl, by decide⟩⟩
instance iTyW_6 : CellT Tryz.prog 215 := ⟨fun _ => by kernel_rfl, fun _ => by kernel_rfl⟩
instance iTyW_7 : CellT Tryz.prog 26 := ⟨fun _ => by kernel_rfl, fun _ => by kernel_rfl⟩
instance iTyW_8 : CellT Tryz.prog 3 := ⟨fun _ => by kernel_rfl, fun _ => by kernel_rfl⟩
instance iTyW_9 : RowT Tryz.prog 47 32 := ⟨by kernel_rfl, _, Tryz.underlying47, rfl⟩
instance iTyW_10 : RowT Tryz.prog 49 35 := ⟨by kernel_rfl, _, Tryz.underlying49, rfl⟩
instance iTyW_11 : ZeroT Tryz.prog 144 #[.slice none 0 0] := ⟨.agg #[.slice none 0 0], fun _ => by kernel_rfl, rfl⟩
instance iTyW_12 : CellT Tryz.prog 5 := ⟨fun _ => by kernel_rfl, fun _ => by kernel_rfl⟩
instance iTyW_13 : CellT Tryz.prog 4 := ⟨fun _ => by kernel_rfl, fun _ => by kernel_rfl⟩
instance iTyW_14 : CellT Tryz.prog 9 := ⟨fun _ => by kernel_rfl, fun _ => by kernel_rfl⟩
instance iTyW_15 : ElemT Tryz.prog 26 5 1 1 (.int .u8 0) := ⟨⟨Tryz.underlying26, by kernel_rfl, rfl, by decide⟩⟩
end Go.Proofs.YthcleccofccbdaaGreat
end
section
open Go Go.RowKit
namespace Go.Proofs.YthcleccofccbdaaGreat
instance elemEqWH : ElemT Tryz.prog 40 47 32 32 (.agg (u8s zeroH.l)) := ⟨⟨Tryz.underlying40, by kernel_rfl, rfl, by decide⟩⟩
instance zeroEqWH : ZeroT Tryz.prog 47 (u8s zeroH.l) := ⟨.agg (u8s zeroH.l), fun _ => by kernel_rfl, rfl⟩
instance cellEqWR : CellT Tryz.prog 40 := ⟨fun _ => by kernel_rfl, fun _ => by kernel_rfl⟩
instance iEqW_1 : DecidableEq H32 := fun a b => decidable_of_iff (a.l = b.l) ⟨H32.ext', congrArg _⟩
theorem beq_hash (a b : H32) : (a.l == b.l) = decide (a = b) := by
  rw [Bool.eq_iff_iff]
  simp only [beq_iff_eq, decide_eq_true_eq]
  exact ⟨H32.ext', fun h => by rw [h]⟩
theorem eqlH (a b : H32) (w : World) : (binOp .eql 47 (.agg (u8s a.l)) (.agg (u8s b.l))).run Tryz.prog w = .ok (.bool (decide (a = b))) w := by
  rw [← beq_hash]
  exact run_eql_bytes (P := Tryz.prog) w 47 5 32 Tryz.underlying47 Tryz.underlying5 Tryz.sizeOf5 a.l b.l a.len b.len
theorem neqH (a b : H32) (w : World) : (binOp .neq 47 (.agg (u8s a.l)) (.agg (u8s b.l))).run Tryz.prog w = .ok (.bool (!decide (a = b))) w := by
  rw [← beq_hash, run_neq_struct]
  have h := run_equalIn_bytes (P := Tryz.prog) w 9998 47 5 32 Tryz.underlying47 Tryz.underlying5 Tryz.sizeOf5 a.l b.l a.len b.len
  show ((Op.equalIn 10000 47 (.agg (u8s a.l)) (.agg (u8s b.l))).run Tryz.prog w).andThen _ = _
  have e : (Op.equalIn 10000 47 (.agg (u8s a.l)) (.agg (u8s b.l))).run Tryz.prog w = .ok (a.l == b.l) w := h
  rw [e]
  rfl
end Go.Proofs.YthcleccofccbdaaGreat
end
section
open Go Go.RowKit
namespace Go.Proofs.YthcleccofccbdaaGreat
def freshB (l : List H32) (i : Nat) : Nat → Bool
  | 0 => true
  | k + 1 => freshB l i k && !decide (hget l i = hget l k)
def allB (l : List H32) : Nat → Bool
  | 0 => true
  | i + 1 => allB l i && freshB l i i
theorem freshB_iff (l : List H32) (i : Nat) : ∀ k, freshB l i k = true ↔ ∀ j, j < k → hget l i ≠ hget l j
  | 0 => by simp [freshB]
  | k + 1 => by
    rw [freshB, Bool.and_eq_true, freshB_iff l i k]
    simp only [Bool.not_eq_true', decide_eq_false_iff_not]
    constructor
    · rintro ⟨h1, h2⟩ j hj
      by_cases hjk : j = k
      · subst hjk; exact h2
      · exact h1 j (by omega)
    · exact fun h => ⟨fun j hj => h j (by omega), h k (by omega)⟩
theorem allB_false (l : List H32) (i : Nat) (h : freshB l i i = false) : ∀ n, i < n → allB l n = false
  | 0, hn => by omega
  | n + 1, hn => by
    rw [allB]
    by_cases hin : i = n
    · subst hin; rw [h, Bool.and_false]
    · rw [allB_false l i h n (by omega), Bool.false_and]
theorem mem_take_iff (l : List H32) (i : Nat) (hi : i < l.length) : (hget l i ∈ l.take i) ↔ freshB l i i = false := by
  rw [← Bool.not_eq_true, freshB_iff, List.mem_iff_getElem]
  constructor
  · rintro ⟨j, hj, e⟩ h
    rw [List.length_take] at hj
    refine h j (by omega) ?_
    rw [← e]
    simp [hget, List.getD_eq_getElem?_getD, show j < l.length by omega]
  · intro h
    apply Classical.byContradiction
    intro hn
    refine h fun j hj e => hn ⟨j, by rw [List.length_take]; omega, ?_⟩
    rw [e]
    simp [hget, List.getD_eq_getElem?_getD, show j < l.length by omega]
set_option maxRecDepth 100000 in
set_option maxHeartbeats 1600000 in
theorem hindex_calls {A : Option Addr} {n c : Nat} {l : List H32} (x : H32) {w : World} [hr : HR w A (cellsOf l)] (hl : l.length = n) (hmax : n ≤ 1000000000) :
    Calls Tryz.prog 194 #[.slice A n c, .agg (u8s x.l)] w fun e w' => ∃ r : Int, e = .returned (.int .i64 r) ∧ (0 ≤ r ↔ x ∈ l) ∧ Step nowhere w w' := by
  have hq := eqlH
  have HL := Lib.hid hl
  go_enter Tryz.func194, Tryz.ntmps194
  go_wp2_with (first | ((with_reducible apply (wpl_box_agg (dst := some 3))); (exact rfl); intro zx wzx _ _ _))
  go_loopw [8] (fun kv wr => ∃ k : Nat, k ≤ n ∧ kv = .int .i64 (k : Int) ∧ (∀ j, j < k → x ≠ hget l j) ∧ Step nowhere w wr ∧ HB wr zx 47 (u8s x.l)) (fun kv _ => n - (intOf kv).toNat)
  case atStart => exact ⟨0, Nat.zero_le _, rfl, fun j hj => by omega, stepN, inferInstance⟩
  case round =>
    obtain ⟨k, hk, rfl, hj, _, _⟩ := hrel
    have HJ := Lib.hid hj
    clear hj
    by_cases hlt : k < n
    · have hltI : (k : Int) < n := by omega
      have hkl : k < l.length := by omega
      by_cases hx : x = hget l k
      · have hd : decide (x = hget l k) = true := decide_eq_true hx
        have hmem : x ∈ l := by
          rw [hx]
          simp [hget, List.getD_eq_getElem?_getD, hkl]
        have HM := Lib.hid hmem
        clear hx hmem
        go_wp2_with fail
        refine wp_region_N (nowhere) (by kernel_rfl) (fun wd _ _ => ?_)
        refine' takeH (i := 0) (v := _) rfl (by kernel_rfl) (by kernel_rfl) (by kernel_rfl) (fun _ _ _ h => h) (yields_of (by rfl) (fun w' _ => ?_)) inferInstance ?_
        rotate_left
        · ((with_reducible apply ev_loadrow); (exact rfl); infer_instance; infer_instance; (first | (with_reducible assumption) | (with_reducible exact H32.size _) | kernel_rfl))
        try simp only [Act.put, sA]; try simp only [sB, sC]
        refine' takeH (i := 1) (v := _) rfl (by kernel_rfl) (by kernel_rfl) (by kernel_rfl) (fun _ _ _ h => h) (yields_of (by rfl) (fun w' _ => ?_)) inferInstance ?_
        rotate_left
        · (go_simp; try with_reducible rfl)
        try simp only [Act.put, sA]; try simp only [sB, sC]
        refine' takeH (i := 2) (v := _) rfl (by kernel_rfl) (by kernel_rfl) (by kernel_rfl) (fun _ _ _ h => h) (yields_of (by rfl) (fun w' _ => ?_)) inferInstance ?_
        rotate_left
        · (go_simp; try with_reducible rfl)
        try simp only [Act.put, sA]; try simp only [sB, sC]
        refine' takeH (i := 3) (v := _) rfl (by kernel_rfl) (by kernel_rfl) (by kernel_rfl) (fun _ _ _ h => h) (yields_of (by rfl) (fun w' _ => ?_)) inferInstance ?_
        rotate_left
        · ((with_reducible apply ev_indexH'); (exact rfl); (exact rfl); infer_instance; infer_instance; (first | (with_reducible assumption) | omega); (first | (with_reducible assumption) | omega); (first | (with_reducible assumption) | omega))
        try simp only [Act.put, sA]; try simp only [sB, sC]
        refine' takeH (i := 4) (v := _) rfl (by kernel_rfl) (by kernel_rfl) (by kernel_rfl) (fun _ _ _ h => h) (yields_of (by rfl) (fun w' _ => ?_)) inferInstance ?_
        rotate_left
        · ((with_reducible apply (ev_loadhash (t := 47))); (exact rfl); infer_instance; infer_instance; (first | (with_reducible assumption) | omega))
        try simp only [Act.put, sA]; try simp only [sB, sC]
        refine' takeH (i := 5) (v := _) rfl (by kernel_rfl) (by kernel_rfl) (by kernel_rfl) (fun _ _ _ h => h) (yields_of (by rfl) (fun w' _ => ?_)) inferInstance ?_
        rotate_left
        · (go_simp; try with_reducible rfl)
        try simp only [Act.put, sA]; try simp only [sB, sC]
        refine wpAnyH_done (by kernel_rfl) ?_ _
        go_wp2_with fail
        go_ret
        exact ⟨_, rfl, ⟨fun _ => HM.out, fun _ => by omega⟩, stepN⟩
      · have hd : decide (x = hget l k) = false := decide_eq_false hx
        have HX := Lib.hid hx
        clear hx
        go_wp2_with fail
        refine wp_region_N (nowhere) (by kernel_rfl) (fun wd _ _ => ?_)
        refine' takeH (i := 0) (v := _) rfl (by kernel_rfl) (by kernel_rfl) (by kernel_rfl) (fun _ _ _ h => h) (yields_of (by rfl) (fun w' _ => ?_)) inferInstance ?_
        rotate_left
        · ((with_reducible apply ev_loadrow); (exact rfl); infer_instance; infer_instance; (first | (with_reducible assumption) | (with_reducible exact H32.size _) | kernel_rfl))
        try simp only [Act.put, sA]; try simp only [sB, sC]
        refine' takeH (i := 1) (v := _) rfl (by kernel_rfl) (by kernel_rfl) (by kernel_rfl) (fun _ _ _ h => h) (yields_of (by rfl) (fun w' _ => ?_)) inferInstance ?_
        rotate_left
        · (go_simp; try with_reducible rfl)
        try simp only [Act.put, sA]; try simp only [sB, sC]
        refine' takeH (i := 2) (v := _) rfl (by kernel_rfl) (by kernel_rfl) (by kernel_rfl) (fun _ _ _ h => h) (yields_of (by rfl) (fun w' _ => ?_)) inferInstance ?_
        rotate_left
        · (go_simp; try with_reducible rfl)
        try simp only [Act.put, sA]; try simp only [sB, sC]
        refine' takeH (i := 3) (v := _) rfl (by kernel_rfl) (by kernel_rfl) (by kernel_rfl) (fun _ _ _ h => h) (yields_of (by rfl) (fun w' _ => ?_)) inferInstance ?_
        rotate_left
        · ((with_reducible apply ev_indexH'); (exact rfl); (exact rfl); infer_instance; infer_instance; (first | (with_reducible assumption) | omega); (first | (with_reducible assumption) | omega); (first | (with_reducible assumption) | omega))
        try simp only [Act.put, sA]; try simp only [sB, sC]
        refine' takeH (i := 4) (v := _) rfl (by kernel_rfl) (by kernel_rfl) (by kernel_rfl) (fun _ _ _ h => h) (yields_of (by rfl) (fun w' _ => ?_)) inferInstance ?_
        rotate_left
        · ((with_reducible apply (ev_loadhash (t := 47))); (exact rfl); infer_instance; infer_instance; (first | (with_reducible assumption) | omega))
        try simp only [Act.put, sA]; try simp only [sB, sC]
        refine' takeH (i := 5) (v := _) rfl (by kernel_rfl) (by kernel_rfl) (by kernel_rfl) (fun _ _ _ h => h) (yields_of (by rfl) (fun w' _ => ?_)) inferInstance ?_
        rotate_left
        · (go_simp; try with_reducible rfl)
        try simp only [Act.put, sA]; try simp only [sB, sC]
        refine wpAnyH_done (by kernel_rfl) ?_ _
        go_wp2_with fail
        refine ⟨⟨k + 1, by omega, by go_num, fun j hj => ?_, stepN, inferInstance⟩, by simp [intOf]; omega⟩
        by_cases hjk : j = k
        · subst hjk; exact HX.out
        · exact HJ.out j (by omega)
    · have hltI : ¬ (k : Int) < n := by omega
      go_wp2_with fail
      go_ret
      refine ⟨_, rfl, ⟨fun h => by simp at h, fun h => ?_⟩, stepN⟩
      obtain ⟨j, hj, e⟩ := List.mem_iff_getElem.1 h
      have := HL.out
      refine absurd ?_ (HJ.out j (by omega))
      rw [← e]
      simp [hget, List.getD_eq_getElem?_getD, hj]
set_option maxRecDepth 100000 in
set_option maxHeartbeats 1600000 in
theorem hcontains_calls {A : Option Addr} {n c : Nat} {l : List H32} (x : H32) {w : World} [hr : HR w A (cellsOf l)] (hl : l.length = n) (hmax : n ≤ 1000000000) :
    Calls Tryz.prog 185 #[.slice A n c, .agg (u8s x.l)] w fun e w' => e = .returned (.bool (decide (x ∈ l))) ∧ Step nowhere w w' := by
  go_enter Tryz.func185, Tryz.ntmps185
  go_wp2_with (first | ((with_reducible apply (wpl_box_agg (dst := some 3))); (exact rfl); intro zx wzx _ _ _) | ((with_reducible apply wpl_loadrow); (exact rfl); infer_instance; infer_instance; (first | (with_reducible assumption) | (with_reducible exact H32.size _) | kernel_rfl)))
  refine (hindex_calls (l := l) x hl hmax).mono ?_
  rintro e w1 ⟨r, rfl, hr, _⟩
  have hd : decide (0 ≤ r) = decide (x ∈ l) := decide_eq_decide.2 hr
  have HD := Lib.hid hd
  clear hd hr
  go_wp2_with fail
  go_ret
  refine ⟨?_, stepN⟩
  rw [← HD.out]
  rfl
def isB (l : List H32) (need : Int) : Bool := decide (l.length ≤ 4) && decide (1 ≤ need) && decide (need ≤ l.length) && allB l l.length
end Go.Proofs.YthcleccofccbdaaGreat
end
section
open Go Go.RowKit
namespace Go.Proofs.YthcleccofccbdaaGreat
set_option maxRecDepth 100000 in
set_option maxHeartbeats 1600000 in
theorem unlikeH_calls {A : Option Addr} {n c : Nat} {l : List H32} {w : World} [hr : HR w A (cellsOf l)] (hl : l.length = n) (hc : n ≤ c) (hmax : n ≤ 1000000000) :
    Calls Tryz.prog 160 #[.slice A n c] w fun e w' => e = .returned (.bool (allB l n)) ∧ Step nowhere w w' := by
  obtain ⟨R, hR⟩ : ∃ R, R = allB l n := ⟨_, rfl⟩
  have HRE := Lib.hid hR
  rw [← hR]
  clear hR
  go_enter Tryz.func160, Tryz.ntmps160
  go_wp2_with fail
  go_loopw [7] (fun kv wr => ∃ k : Nat, k ≤ n ∧ kv = .int .i64 (k : Int) ∧ Hid (allB l k = true) ∧ Step nowhere w wr) (fun kv _ => n - (intOf kv).toNat)
  case atStart => exact ⟨0, Nat.zero_le _, rfl, Lib.hid rfl, stepN⟩
  case round =>
    obtain ⟨k, hk, rfl, HA, _⟩ := hrel
    by_cases hlt : k < n
    · have hltI : (k : Int) < n := by omega
      have hkl : k < l.length := by omega
      have hkc : k ≤ c := by omega
      have hmt := mem_take_iff l k hkl
      have HTL : Hid ((l.take k).length = k) := Lib.hid (by rw [List.length_take]; omega)
      by_cases hfr : freshB l k k = true
      · have hnm : decide (hget l k ∈ l.take k) = false := decide_eq_false (by rw [hmt, hfr]; simp)
        have HNM := Lib.hid hnm
        have HA2 : Hid (allB l (k + 1) = true) := Lib.hid (by rw [allB, HA.out, hfr]; rfl)
        clear hnm hmt hfr
        go_wp2_with (first | ((with_reducible apply (wpl_alloc (dst := some 4))); intro zh wzh _ _ _) | ((with_reducible apply wpl_storerow); (exact rfl); (exact rfl); infer_instance; infer_instance; (first | (with_reducible assumption) | (with_reducible exact H32.size _) | kernel_rfl); (first | (with_reducible assumption) | (with_reducible exact H32.size _) | kernel_rfl); (first | (with_reducible exact u8s_one _) | (with_reducible assumption) | kernel_rfl); intro ws _ _) | ((with_reducible apply wpl_indexH); (exact rfl); (exact rfl); infer_instance; infer_instance; (first | (with_reducible assumption) | omega); (first | (with_reducible assumption) | omega); (first | (with_reducible assumption) | omega)) | ((with_reducible apply (wpl_loadhash (t := 47))); (exact rfl); infer_instance; infer_instance; (first | (with_reducible assumption) | omega)))
        refine wp_region_N (nowhere) (by kernel_rfl) (fun wd _ _ => ?_)
        refine' takeH (i := 0) (v := _) rfl (by kernel_rfl) (by kernel_rfl) (by kernel_rfl) (fun _ _ _ h => h) (yields_of (by rfl) (fun w' _ => ?_)) inferInstance ?_
        rotate_left
        · (go_simp; try with_reducible rfl)
        try simp only [Act.put, sA]; try simp only [sB, sC]
        refine' takeH (i := 1) (v := _) rfl (by kernel_rfl) (by kernel_rfl) (by kernel_rfl) (fun _ _ _ h => h) (yields_of (by rfl) (fun w' _ => ?_)) inferInstance ?_
        rotate_left
        · (go_simp; try with_reducible rfl)
        try simp only [Act.put, sA]; try simp only [sB, sC]
        refine' takeH (i := 2) (v := _) rfl (by kernel_rfl) (by kernel_rfl) (by kernel_rfl) (fun _ _ _ h => h) (yields_of (by rfl) (fun w' _ => ?_)) inferInstance ?_
        rotate_left
        · ((with_reducible apply ev_sl_h); (exact rfl); (exact rfl); infer_instance; (first | (with_reducible assumption) | omega))
        try simp only [Act.put, sA]; try simp only [sB, sC]
        refine' takeH (i := 3) (v := _) rfl (by kernel_rfl) (by kernel_rfl) (by kernel_rfl) (fun _ _ _ h => h) (yields_of (by rfl) (fun w' _ => ?_)) inferInstance ?_
        rotate_left
        · ((with_reducible apply ev_loadrow); (exact rfl); infer_instance; infer_instance; (first | (with_reducible assumption) | (with_reducible exact H32.size _) | kernel_rfl))
        try simp only [Act.put, sA]; try simp only [sB, sC]
        refine goH (i := 4) (by kernel_rfl) rfl (fun K_ hK_ => ?_)
        go_simp
        refine (hcontains_calls (l := l.take k) (hr := HR.takeR inferInstance k) (hget l k) HTL.out (by omega)).mono ?_
        rw [HNM.out]
        rintro e w2 ⟨rfl, _⟩
        refine hK_.out _ _ inferInstance (fun _ => ?_)
        clear hK_ K_
        try simp only [Act.put, sA]; try simp only [sB, sC]
        refine wpAnyH_done (by kernel_rfl) ?_ _
        go_wp2_with fail
        exact ⟨⟨k + 1, by omega, by go_num, HA2, stepN⟩, by simp [intOf]; omega⟩
      · have hnm : decide (hget l k ∈ l.take k) = true := decide_eq_true (by rw [hmt]; simpa using hfr)
        have HNM := Lib.hid hnm
        have HF : Hid (R = false) := Lib.hid (by rw [HRE.out]; exact allB_false l k (by simpa using hfr) n hlt)
        clear hnm hmt hfr
        go_wp2_with (first | ((with_reducible apply (wpl_alloc (dst := some 4))); intro zh wzh _ _ _) | ((with_reducible apply wpl_storerow); (exact rfl); (exact rfl); infer_instance; infer_instance; (first | (with_reducible assumption) | (with_reducible exact H32.size _) | kernel_rfl); (first | (with_reducible assumption) | (with_reducible exact H32.size _) | kernel_rfl); (first | (with_reducible exact u8s_one _) | (with_reducible assumption) | kernel_rfl); intro ws _ _) | ((with_reducible apply wpl_indexH); (exact rfl); (exact rfl); infer_instance; infer_instance; (first | (with_reducible assumption) | omega); (first | (with_reducible assumption) | omega); (first | (with_reducible assumption) | omega)) | ((with_reducible apply (wpl_loadhash (t := 47))); (exact rfl); infer_instance; infer_instance; (first | (with_reducible assumption) | omega)))
        refine wp_region_N (nowhere) (by kernel_rfl) (fun wd _ _ => ?_)
        refine' takeH (i := 0) (v := _) rfl (by kernel_rfl) (by kernel_rfl) (by kernel_rfl) (fun _ _ _ h => h) (yields_of (by rfl) (fun w' _ => ?_)) inferInstance ?_
        rotate_left
        · (go_simp; try with_reducible rfl)
        try simp only [Act.put, sA]; try simp only [sB, sC]
        refine' takeH (i := 1) (v := _) rfl (by kernel_rfl) (by kernel_rfl) (by kernel_rfl) (fun _ _ _ h => h) (yields_of (by rfl) (fun w' _ => ?_)) inferInstance ?_
        rotate_left
        · (go_simp; try with_reducible rfl)
        try simp only [Act.put, sA]; try simp only [sB, sC]
        refine' takeH (i := 2) (v := _) rfl (by kernel_rfl) (by kernel_rfl) (by kernel_rfl) (fun _ _ _ h => h) (yields_of (by rfl) (fun w' _ => ?_)) inferInstance ?_
        rotate_left
        · ((with_reducible apply ev_sl_h); (exact rfl); (exact rfl); infer_instance; (first | (with_reducible assumption) | omega))
        try simp only [Act.put, sA]; try simp only [sB, sC]
        refine' takeH (i := 3) (v := _) rfl (by kernel_rfl) (by kernel_rfl) (by kernel_rfl) (fun _ _ _ h => h) (yields_of (by rfl) (fun w' _ => ?_)) inferInstance ?_
        rotate_left
        · ((with_reducible apply ev_loadrow); (exact rfl); infer_instance; infer_instance; (first | (with_reducible assumption) | (with_reducible exact H32.size _) | kernel_rfl))
        try simp only [Act.put, sA]; try simp only [sB, sC]
        refine goH (i := 4) (by kernel_rfl) rfl (fun K_ hK_ => ?_)
        go_simp
        refine (hcontains_calls (l := l.take k) (hr := HR.takeR inferInstance k) (hget l k) HTL.out (by omega)).mono ?_
        rw [HNM.out]
        rintro e w2 ⟨rfl, _⟩
        refine hK_.out _ _ inferInstance (fun _ => ?_)
        clear hK_ K_
        try simp only [Act.put, sA]; try simp only [sB, sC]
        refine wpAnyH_done (by kernel_rfl) ?_ _
        go_wp2_with fail
        go_ret
        rw [HF.out]
        exact ⟨rfl, stepN⟩
    · have hltI : ¬ (k : Int) < n := by omega
      have hkn : k = n := by omega
      have HKN := Lib.hid hkn
      clear hkn
      go_wp2_with fail
      go_ret
      refine ⟨?_, stepN⟩
      rw [HRE.out, ← HKN.out, HA.out]
      rfl
set_option maxRecDepth 100000 in
set_option maxHeartbeats 1600000 in
theorem wIsKeys_calls {A : Option Addr} {n c : Nat} {l : List H32} (need : Int) {w : World} [hr : HR w A (cellsOf l)] (hl : l.length = n) (hc : n ≤ c) (hmax : n ≤ 4398046511104) :
    Calls Tryz.prog 121 #[.agg #[.slice A n c, .int .i64 need]] w fun e w' => e = .returned (.bool (isB l need)) ∧ Step nowhere w w' := by
  obtain ⟨R, hR⟩ : ∃ R, R = isB l need := ⟨_, rfl⟩
  have hRe := hR
  rw [isB, hl] at hRe
  rw [← hR]
  clear hR
  by_cases h4 : n ≤ 4
  · have e4 : (n : Int) ≤ 4 := by omega
    obtain ⟨U, hU⟩ : ∃ U, U = allB l n := ⟨_, rfl⟩
    rw [← hU] at hRe
    rw [decide_eq_true h4, Bool.true_and] at hRe
    have HU := Lib.hid hU
    clear hU
    have hcase : (U = false ∧ R = false) ∨ (U = true ∧ ¬ 1 ≤ need ∧ R = false) ∨ (U = true ∧ 1 ≤ need ∧ R = decide (need ≤ (n : Int))) := by
      cases U
      · exact .inl ⟨rfl, by rw [hRe]; simp⟩
      · by_cases h1 : 1 ≤ need
        · exact .inr (.inr ⟨rfl, h1, by rw [hRe]; simp [h1]⟩)
        · exact .inr (.inl ⟨rfl, h1, by rw [hRe]; simp [h1]⟩)
    clear hRe
    rcases hcase with ⟨rfl, rfl⟩ | ⟨rfl, h1, rfl⟩ | ⟨rfl, h1, rfl⟩
    all_goals
      go_enter Tryz.func121, Tryz.ntmps121
      go_wp2_with (first | ((with_reducible apply (wpl_guard (op := .load _ _))); (exact rfl)) | ((with_reducible apply (wpl_box_agg (dst := some 1))); (exact rfl); intro zk wzk _ _ _) | ((with_reducible apply (wpl_guard (op := .fieldAddr _ _ _))); (exact rfl)) | ((with_reducible apply wpl_loadcellN); (exact rfl); infer_instance; (exact rfl)))
      refine (unlikeH_calls hl hc (by omega)).mono ?_
      rw [← HU.out]
      rintro e w5 ⟨rfl, _⟩
      go_wp2_with (first | go_skip | ((with_reducible apply (wpl_guard (op := .load _ _))); (exact rfl)) | ((with_reducible apply (wpl_guard (op := .fieldAddr _ _ _))); (exact rfl)) | ((with_reducible apply wpl_loadcellN); (exact rfl); infer_instance; (exact rfl)))
      go_ret
      exact ⟨rfl, stepN⟩
  · have e4 : ¬ (n : Int) ≤ 4 := by omega
    have hf : R = false := by rw [hRe, decide_eq_false h4]; rfl
    rw [hf]
    clear hf hRe
    go_enter Tryz.func121, Tryz.ntmps121
    go_wp2_with (first | go_skip | ((with_reducible apply (wpl_box_agg (dst := some 1))); (exact rfl); intro zk wzk _ _ _) | ((with_reducible apply wpl_loadcellN); (exact rfl); infer_instance; (exact rfl)))
    go_ret
    exact ⟨rfl, stepN⟩
end Go.Proofs.YthcleccofccbdaaGreat
end
section
open Go Go.RowKit
namespace Go.Proofs.YthcleccofccbdaaGreat
theorem hget_ext {l m : List H32} (h : l.length = m.length) (k : ∀ i, i < l.length → hget l i = hget m i) : l = m := by
  apply List.ext_getElem h
  intro i h1 h2
  have := k i h1
  simpa [hget, List.getD_eq_getElem?_getD, h1, h2] using this
set_option maxRecDepth 100000 in
set_option maxHeartbeats 1600000 in
theorem hashes_calls {A B : Option Addr} {n c n2 c2 : Nat} {l m : List H32} {w : World} [HR w A (cellsOf l)] [HR w B (cellsOf m)] (hl : l.length = n) (hm : m.length = n2) (hn9 : n ≤ 1000000000) :
    Calls Tryz.prog 119 #[.slice A n c, .slice B n2 c2] w fun e w' => e = .returned (.bool (decide (l = m))) ∧ Step nowhere w w' := by
  have hneq := neqH
  by_cases hnm : n = n2
  · subst hnm
    have hb : ((n : Int) != (n : Int)) = false := by simp
    have HL := Lib.hid hl
    have HM := Lib.hid hm
    obtain ⟨b, hbd⟩ : ∃ b : Bool, b = decide (l = m) := ⟨_, rfl⟩
    rw [← hbd]
    have HBD := Lib.hid hbd
    clear hbd
    go_enter Tryz.func119, Tryz.ntmps119
    go_wp2_with fail
    go_loopw [5] (fun i wr => ∃ k : Nat, k ≤ n ∧ i = .int .i64 (k : Int) ∧ (∀ j, j < k → hget l j = hget m j) ∧ Step nowhere w wr) (fun i _ => n - (intOf i).toNat)
    case atStart => exact ⟨0, Nat.zero_le _, rfl, fun j hj => by omega, stepN⟩
    case round =>
      obtain ⟨k, hk, rfl, hj, _⟩ := hrel
      have HJ := Lib.hid hj
      clear hj
      by_cases hlt : k < n
      · have hkl : k < l.length := by omega
        have hkm : k < m.length := by omega
        by_cases hne : hget l k = hget m k
        · have hdec : decide (hget l k = hget m k) = true := decide_eq_true hne
          have HNE := Lib.hid hne
          clear hne
          go_wp2_with fail
          refine wp_region_N (nowhere) (by kernel_rfl) (fun wd _ _ => ?_)
          refine' takeH (i := 0) (v := _) rfl (by kernel_rfl) (by kernel_rfl) (by kernel_rfl) (fun _ _ _ h => h) (yields_of (by rfl) (fun w' _ => ?_)) inferInstance ?_
          rotate_left
          · (go_simp; try with_reducible rfl)
          try simp only [Act.put, sA]; try simp only [sB, sC]
          refine' takeH (i := 1) (v := _) rfl (by kernel_rfl) (by kernel_rfl) (by kernel_rfl) (fun _ _ _ h => h) (yields_of (by rfl) (fun w' _ => ?_)) inferInstance ?_
          rotate_left
          · (go_simp; try with_reducible rfl)
          try simp only [Act.put, sA]; try simp only [sB, sC]
          refine' takeH (i := 2) (v := _) rfl (by kernel_rfl) (by kernel_rfl) (by kernel_rfl) (fun _ _ _ h => h) (yields_of (by rfl) (fun w' _ => ?_)) inferInstance ?_
          rotate_left
          · ((with_reducible apply ev_indexH'); (exact rfl); (exact rfl); infer_instance; infer_instance; (first | (with_reducible assumption) | omega); (first | (with_reducible assumption) | omega); (first | (with_reducible assumption) | omega))
          try simp only [Act.put, sA]; try simp only [sB, sC]
          refine' takeH (i := 3) (v := _) rfl (by kernel_rfl) (by kernel_rfl) (by kernel_rfl) (fun _ _ _ h => h) (yields_of (by rfl) (fun w' _ => ?_)) inferInstance ?_
          rotate_left
          · ((with_reducible apply (ev_loadhash (t := 47))); (exact rfl); infer_instance; infer_instance; (first | (with_reducible assumption) | omega))
          try simp only [Act.put, sA]; try simp only [sB, sC]
          refine' takeH (i := 4) (v := _) rfl (by kernel_rfl) (by kernel_rfl) (by kernel_rfl) (fun _ _ _ h => h) (yields_of (by rfl) (fun w' _ => ?_)) inferInstance ?_
          rotate_left
          · (go_simp; try with_reducible rfl)
          try simp only [Act.put, sA]; try simp only [sB, sC]
          refine' takeH (i := 5) (v := _) rfl (by kernel_rfl) (by kernel_rfl) (by kernel_rfl) (fun _ _ _ h => h) (yields_of (by rfl) (fun w' _ => ?_)) inferInstance ?_
          rotate_left
          · (go_simp; try with_reducible rfl)
          try simp only [Act.put, sA]; try simp only [sB, sC]
          refine' takeH (i := 6) (v := _) rfl (by kernel_rfl) (by kernel_rfl) (by kernel_rfl) (fun _ _ _ h => h) (yields_of (by rfl) (fun w' _ => ?_)) inferInstance ?_
          rotate_left
          · ((with_reducible apply ev_indexH'); (exact rfl); (exact rfl); infer_instance; infer_instance; (first | (with_reducible assumption) | omega); (first | (with_reducible assumption) | omega); (first | (with_reducible assumption) | omega))
          try simp only [Act.put, sA]; try simp only [sB, sC]
          refine' takeH (i := 7) (v := _) rfl (by kernel_rfl) (by kernel_rfl) (by kernel_rfl) (fun _ _ _ h => h) (yields_of (by rfl) (fun w' _ => ?_)) inferInstance ?_
          rotate_left
          · ((with_reducible apply (ev_loadhash (t := 47))); (exact rfl); infer_instance; infer_instance; (first | (with_reducible assumption) | omega))
          try simp only [Act.put, sA]; try simp only [sB, sC]
          refine' takeH (i := 8) (v := _) rfl (by kernel_rfl) (by kernel_rfl) (by kernel_rfl) (fun _ _ _ h => h) (yields_of (by rfl) (fun w' _ => ?_)) inferInstance ?_
          rotate_left
          · (go_simp; try with_reducible rfl)
          try simp only [Act.put, sA]; try simp only [sB, sC]
          refine wpAnyH_done (by kernel_rfl) ?_ _
          go_wp2_with fail
          refine ⟨⟨k + 1, by omega, by go_num, fun j hj => ?_, stepN⟩, by simp [intOf]; omega⟩
          by_cases hjk : j = k
          · subst hjk; exact HNE.out
          · exact HJ.out j (by omega)
        · have hdec : decide (hget l k = hget m k) = false := decide_eq_false hne
          have HNE := Lib.hid hne
          clear hne
          go_wp2_with fail
          refine wp_region_N (nowhere) (by kernel_rfl) (fun wd _ _ => ?_)
          refine' takeH (i := 0) (v := _) rfl (by kernel_rfl) (by kernel_rfl) (by kernel_rfl) (fun _ _ _ h => h) (yields_of (by rfl) (fun w' _ => ?_)) inferInstance ?_
          rotate_left
          · (go_simp; try with_reducible rfl)
          try simp only [Act.put, sA]; try simp only [sB, sC]
          refine' takeH (i := 1) (v := _) rfl (by kernel_rfl) (by kernel_rfl) (by kernel_rfl) (fun _ _ _ h => h) (yields_of (by rfl) (fun w' _ => ?_)) inferInstance ?_
          rotate_left
          · (go_simp; try with_reducible rfl)
          try simp only [Act.put, sA]; try simp only [sB, sC]
          refine' takeH (i := 2) (v := _) rfl (by kernel_rfl) (by kernel_rfl) (by kernel_rfl) (fun _ _ _ h => h) (yields_of (by rfl) (fun w' _ => ?_)) inferInstance ?_
          rotate_left
          · ((with_reducible apply ev_indexH'); (exact rfl); (exact rfl); infer_instance; infer_instance; (first | (with_reducible assumption) | omega); (first | (with_reducible assumption) | omega); (first | (with_reducible assumption) | omega))
          try simp only [Act.put, sA]; try simp only [sB, sC]
          refine' takeH (i := 3) (v := _) rfl (by kernel_rfl) (by kernel_rfl) (by kernel_rfl) (fun _ _ _ h => h) (yields_of (by rfl) (fun w' _ => ?_)) inferInstance ?_
          rotate_left
          · ((with_reducible apply (ev_loadhash (t := 47))); (exact rfl); infer_instance; infer_instance; (first | (with_reducible assumption) | omega))
          try simp only [Act.put, sA]; try simp only [sB, sC]
          refine' takeH (i := 4) (v := _) rfl (by kernel_rfl) (by kernel_rfl) (by kernel_rfl) (fun _ _ _ h => h) (yields_of (by rfl) (fun w' _ => ?_)) inferInstance ?_
          rotate_left
          · (go_simp; try with_reducible rfl)
          try simp only [Act.put, sA]; try simp only [sB, sC]
          refine' takeH (i := 5) (v := _) rfl (by kernel_rfl) (by kernel_rfl) (by kernel_rfl) (fun _ _ _ h => h) (yields_of (by rfl) (fun w' _ => ?_)) inferInstance ?_
          rotate_left
          · (go_simp; try with_reducible rfl)
          try simp only [Act.put, sA]; try simp only [sB, sC]
          refine' takeH (i := 6) (v := _) rfl (by kernel_rfl) (by kernel_rfl) (by kernel_rfl) (fun _ _ _ h => h) (yields_of (by rfl) (fun w' _ => ?_)) inferInstance ?_
          rotate_left
          · ((with_reducible apply ev_indexH'); (exact rfl); (exact rfl); infer_instance; infer_instance; (first | (with_reducible assumption) | omega); (first | (with_reducible assumption) | omega); (first | (with_reducible assumption) | omega))
          try simp only [Act.put, sA]; try simp only [sB, sC]
          refine' takeH (i := 7) (v := _) rfl (by kernel_rfl) (by kernel_rfl) (by kernel_rfl) (fun _ _ _ h => h) (yields_of (by rfl) (fun w' _ => ?_)) inferInstance ?_
          rotate_left
          · ((with_reducible apply (ev_loadhash (t := 47))); (exact rfl); infer_instance; infer_instance; (first | (with_reducible assumption) | omega))
          try simp only [Act.put, sA]; try simp only [sB, sC]
          refine' takeH (i := 8) (v := _) rfl (by kernel_rfl) (by kernel_rfl) (by kernel_rfl) (fun _ _ _ h => h) (yields_of (by rfl) (fun w' _ => ?_)) inferInstance ?_
          rotate_left
          · (go_simp; try with_reducible rfl)
          try simp only [Act.put, sA]; try simp only [sB, sC]
          refine wpAnyH_done (by kernel_rfl) ?_ _
          go_wp2_with fail
          go_ret
          refine ⟨?_, stepN⟩
          rw [HBD.out, decide_eq_false (fun e => HNE.out (by rw [e]))]
          rfl
      · have hge : n ≤ k := by omega
        go_wp2_with fail
        go_ret
        refine ⟨?_, stepN⟩
        rw [HBD.out, decide_eq_true (hget_ext (by rw [HL.out, HM.out]) (fun i hi => HJ.out i (by have := HL.out; omega)))]
        rfl
  · have hb : ((n : Int) != (n2 : Int)) = true := by simp; omega
    have hne : ¬ l = m := fun e => hnm (by rw [← hl, ← hm, e])
    rw [decide_eq_false hne]
    go_enter Tryz.func119, Tryz.ntmps119
    go_wp2_with fail
    go_ret
    exact ⟨rfl, stepN⟩
end Go.Proofs.YthcleccofccbdaaGreat
end
