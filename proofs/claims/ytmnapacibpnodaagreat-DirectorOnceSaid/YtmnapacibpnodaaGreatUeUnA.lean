/- QmI, UnA -/
import Derived.Test.YtmnapacibpnodaaGreatUeQmR
import Derived.Test.YtmnapacibpnodaaGreatUeHashes
section
open Go Go.RowKit
namespace Go.Proofs.YtmnapacibpnodaaGreat
def freshB (l : List H32) (i : Nat) : Nat → Bool
  | 0 => true
  | k + 1 => freshB l i k && !decide (hget l i = hget l k)
def allB (l : List H32) : Nat → Bool
  | 0 => true
  | i + 1 => allB l i && freshB l i i
theorem freshB_iff (l : List H32) (i : Nat) : ∀ k, freshB l i k = true ↔ ∀ j, j < k → hget l i ≠ hget l j
  | 0 => by simp [freshB]
  | k + 1 => by
    rw [freshB, Bool.and_eq_true, freshB_iff l i k]
    simp only [Bool.not_eq_true', decide_eq_false_iff_not]
    constructor
    · rintro ⟨h1, h2⟩ j hj
      by_cases hjk : j = k
      · subst hjk; exact h2
      · exact h1 j (by omega)
    · exact fun h => ⟨fun j hj => h j (by omega), h k (by omega)⟩
theorem allB_false (l : List H32) (i : Nat) (h : freshB l i i = false) : ∀ n, i < n → allB l n = false
  | 0, hn => by omega
  | n + 1, hn => by
    rw [allB]
    by_cases hin : i = n
    · subst hin; rw [h, Bool.and_false]
    · rw [allB_false l i h n (by omega), Bool.false_and]
theorem mem_take_iff (l : List H32) (i : Nat) (hi : i < l.length) : (hget l i ∈ l.take i) ↔ freshB l i i = false := by
  rw [← Bool.not_eq_true, freshB_iff, List.mem_iff_getElem]
  constructor
  · rintro ⟨j, hj, e⟩ h
    rw [List.length_take] at hj
    refine h j (by omega) ?_
    rw [← e]
    simp [hget, List.getD_eq_getElem?_getD, show j < l.length by omega]
  · intro h
    apply Classical.byContradiction
    intro hn
    refine h fun j hj e => hn ⟨j, by rw [List.length_take]; omega, ?_⟩
    rw [e]
    simp [hget, List.getD_eq_getElem?_getD, show j < l.length by omega]
set_option maxRecDepth 100000 in
set_option maxHeartbeats 1600000 in
theorem hindex_calls {A : Option Addr} {n c : Nat} {l : List H32} (x : H32) {w : World} [hr : HR w A (cellsOf l)] (hl : l.length = n) (hmax : n ≤ 1000000000) :
    Calls Tryz.prog 93 #[.slice A n c, .agg (u8s x.l)] w fun e w' => ∃ r : Int, e = .returned (.int .i64 r) ∧ (0 ≤ r ↔ x ∈ l) ∧ Step nowhere w w' := by
  have hq := eqlH
  have HL := Lib.hid hl
  go_enter Tryz.func93, Tryz.ntmps93
  go_wp2_with (first | ((with_reducible apply (wpl_box_agg (dst := some 3))); (exact rfl); intro zx wzx _ _ _))
  go_loopw [8] (fun kv wr => ∃ k : Nat, k ≤ n ∧ kv = .int .i64 (k : Int) ∧ (∀ j, j < k → x ≠ hget l j) ∧ Step nowhere w wr ∧ HB wr zx 26 (u8s x.l)) (fun kv _ => n - (intOf kv).toNat)
  case atStart => exact ⟨0, Nat.zero_le _, rfl, fun j hj => by omega, stepN, inferInstance⟩
  case round =>
    obtain ⟨k, hk, rfl, hj, _, _⟩ := hrel
    have HJ := Lib.hid hj
    clear hj
    by_cases hlt : k < n
    · have hltI : (k : Int) < n := by omega
      have hkl : k < l.length := by omega
      by_cases hx : x = hget l k
      · have hd : decide (x = hget l k) = true := decide_eq_true hx
        have hmem : x ∈ l := by
          rw [hx]
          simp [hget, List.getD_eq_getElem?_getD, hkl]
        have HM := Lib.hid hmem
        clear hx hmem
        go_wp2_with fail
        refine wp_region_N (nowhere) (by kernel_rfl) (fun wd _ _ => ?_)
        refine' takeH (i := 0) (v := _) rfl (by kernel_rfl) (by kernel_rfl) (by kernel_rfl) (fun _ _ _ h => h) (yields_of (by rfl) (fun w' _ => ?_)) inferInstance ?_
        rotate_left
        · ((with_reducible apply ev_loadrow); (exact rfl); infer_instance; infer_instance; (first | (with_reducible assumption) | (with_reducible exact H32.size _) | kernel_rfl))
        try simp only [Act.put, sA]; try simp only [sB, sC]
        refine' takeH (i := 1) (v := _) rfl (by kernel_rfl) (by kernel_rfl) (by kernel_rfl) (fun _ _ _ h => h) (yields_of (by rfl) (fun w' _ => ?_)) inferInstance ?_
        rotate_left
        · (go_simp; try with_reducible rfl)
        try simp only [Act.put, sA]; try simp only [sB, sC]
        refine' takeH (i := 2) (v := _) rfl (by kernel_rfl) (by kernel_rfl) (by kernel_rfl) (fun _ _ _ h => h) (yields_of (by rfl) (fun w' _ => ?_)) inferInstance ?_
        rotate_left
        · (go_simp; try with_reducible rfl)
        try simp only [Act.put, sA]; try simp only [sB, sC]
        refine' takeH (i := 3) (v := _) rfl (by kernel_rfl) (by kernel_rfl) (by kernel_rfl) (fun _ _ _ h => h) (yields_of (by rfl) (fun w' _ => ?_)) inferInstance ?_
        rotate_left
        · ((with_reducible apply ev_indexH'); (exact rfl); (exact rfl); infer_instance; infer_instance; (first | (with_reducible assumption) | omega); (first | (with_reducible assumption) | omega); (first | (with_reducible assumption) | omega))
        try simp only [Act.put, sA]; try simp only [sB, sC]
        refine' takeH (i := 4) (v := _) rfl (by kernel_rfl) (by kernel_rfl) (by kernel_rfl) (fun _ _ _ h => h) (yields_of (by rfl) (fun w' _ => ?_)) inferInstance ?_
        rotate_left
        · ((with_reducible apply (ev_loadhash (t := 26))); (exact rfl); infer_instance; infer_instance; (first | (with_reducible assumption) | omega))
        try simp only [Act.put, sA]; try simp only [sB, sC]
        refine' takeH (i := 5) (v := _) rfl (by kernel_rfl) (by kernel_rfl) (by kernel_rfl) (fun _ _ _ h => h) (yields_of (by rfl) (fun w' _ => ?_)) inferInstance ?_
        rotate_left
        · (go_simp; try with_reducible rfl)
        try simp only [Act.put, sA]; try simp only [sB, sC]
        refine wpAnyH_done (by kernel_rfl) ?_ _
        go_wp2_with fail
        go_ret
        exact ⟨_, rfl, ⟨fun _ => HM.out, fun _ => by omega⟩, stepN⟩
      · have hd : decide (x = hget l k) = false := decide_eq_false hx
        have HX := Lib.hid hx
        clear hx
        go_wp2_with fail
        refine wp_region_N (nowhere) (by kernel_rfl) (fun wd _ _ => ?_)
        refine' takeH (i := 0) (v := _) rfl (by kernel_rfl) (by kernel_rfl) (by kernel_rfl) (fun _ _ _ h => h) (yields_of (by rfl) (fun w' _ => ?_)) inferInstance ?_
        rotate_left
        · ((with_reducible apply ev_loadrow); (exact rfl); infer_instance; infer_instance; (first | (with_reducible assumption) | (with_reducible exact H32.size _) | kernel_rfl))
        try simp only [Act.put, sA]; try simp only [sB, sC]
        refine' takeH (i := 1) (v := _) rfl (by kernel_rfl) (by kernel_rfl) (by kernel_rfl) (fun _ _ _ h => h) (yields_of (by rfl) (fun w' _ => ?_)) inferInstance ?_
        rotate_left
        · (go_simp; try with_reducible rfl)
        try simp only [Act.put, sA]; try simp only [sB, sC]
        refine' takeH (i := 2) (v := _) rfl (by kernel_rfl) (by kernel_rfl) (by kernel_rfl) (fun _ _ _ h => h) (yields_of (by rfl) (fun w' _ => ?_)) inferInstance ?_
        rotate_left
        · (go_simp; try with_reducible rfl)
        try simp only [Act.put, sA]; try simp only [sB, sC]
        refine' takeH (i := 3) (v := _) rfl (by kernel_rfl) (by kernel_rfl) (by kernel_rfl) (fun _ _ _ h => h) (yields_of (by rfl) (fun w' _ => ?_)) inferInstance ?_
        rotate_left
        · ((with_reducible apply ev_indexH'); (exact rfl); (exact rfl); infer_instance; infer_instance; (first | (with_reducible assumption) | omega); (first | (with_reducible assumption) | omega); (first | (with_reducible assumption) | omega))
        try simp only [Act.put, sA]; try simp only [sB, sC]
        refine' takeH (i := 4) (v := _) rfl (by kernel_rfl) (by kernel_rfl) (by kernel_rfl) (fun _ _ _ h => h) (yields_of (by rfl) (fun w' _ => ?_)) inferInstance ?_
        rotate_left
        · ((with_reducible apply (ev_loadhash (t := 26))); (exact rfl); infer_instance; infer_instance; (first | (with_reducible assumption) | omega))
        try simp only [Act.put, sA]; try simp only [sB, sC]
        refine' takeH (i := 5) (v := _) rfl (by kernel_rfl) (by kernel_rfl) (by kernel_rfl) (fun _ _ _ h => h) (yields_of (by rfl) (fun w' _ => ?_)) inferInstance ?_
        rotate_left
        · (go_simp; try with_reducible rfl)
        try simp only [Act.put, sA]; try simp only [sB, sC]
        refine wpAnyH_done (by kernel_rfl) ?_ _
        go_wp2_with fail
        refine ⟨⟨k + 1, by omega, by go_num, fun j hj => ?_, stepN, inferInstance⟩, by simp [intOf]; omega⟩
        by_cases hjk : j = k
        · subst hjk; exact HX.out
        · exact HJ.out j (by omega)
    · have hltI : ¬ (k : Int) < n := by omega
      go_wp2_with fail
      go_ret
      refine ⟨_, rfl, ⟨fun h => by simp at h, fun h => ?_⟩, stepN⟩
      obtain ⟨j, hj, e⟩ := List.mem_iff_getElem.1 h
      have := HL.out
      refine absurd ?_ (HJ.out j (by omega))
      rw [← e]
      simp [hget, List.getD_eq_getElem?_getD, hj]
set_option maxRecDepth 100000 in
set_option maxHeartbeats 1600000 in
theorem hcontains_calls {A : Option Addr} {n c : Nat} {l : List H32} (x : H32) {w : World} [hr : HR w A (cellsOf l)] (hl : l.length = n) (hmax : n ≤ 1000000000) :
    Calls Tryz.prog 73 #[.slice A n c, .agg (u8s x.l)] w fun e w' => e = .returned (.bool (decide (x ∈ l))) ∧ Step nowhere w w' := by
  go_enter Tryz.func73, Tryz.ntmps73
  go_wp2_with (first | ((with_reducible apply (wpl_box_agg (dst := some 3))); (exact rfl); intro zx wzx _ _ _) | ((with_reducible apply wpl_loadrow); (exact rfl); infer_instance; infer_instance; (first | (with_reducible assumption) | (with_reducible exact H32.size _) | kernel_rfl)))
  refine (hindex_calls (l := l) x hl hmax).mono ?_
  rintro e w1 ⟨r, rfl, hr, _⟩
  have hd : decide (0 ≤ r) = decide (x ∈ l) := decide_eq_decide.2 hr
  have HD := Lib.hid hd
  clear hd hr
  go_wp2_with fail
  go_ret
  refine ⟨?_, stepN⟩
  rw [← HD.out]
  rfl
def isB (l : List H32) (need : Int) : Bool := decide (l.length ≤ 4) && decide (1 ≤ need) && decide (need ≤ l.length) && allB l l.length
set_option maxRecDepth 100000 in
set_option maxHeartbeats 1600000 in
theorem quorumIs_calls {A : Option Addr} {n c : Nat} {l : List H32} (need : Int) {w : World} [hr : HR w A (cellsOf l)] (hl : l.length = n) (hc : n ≤ c) (hmax : n ≤ 1000000000) :
    Calls Tryz.prog 45 #[.agg #[.slice A n c, .int .i64 need]] w fun e w' => e = .returned (.bool (isB l need)) ∧ Step nowhere w w' := by
  obtain ⟨R, hR⟩ : ∃ R, R = isB l need := ⟨_, rfl⟩
  have hRe := hR
  rw [isB, hl] at hRe
  rw [← hR]
  clear hR
  by_cases h4 : 4 < n
  · have e1 : (4 : Int) < n := by omega
    have hf : R = false := by rw [hRe, decide_eq_false (by omega)]; rfl
    rw [hf]
    clear hf hRe
    go_enter Tryz.func45, Tryz.ntmps45
    go_wp2_with (first | go_skip | ((with_reducible apply (wpl_box_agg (dst := some 1))); (exact rfl); intro zk wzk _ _ _) | ((with_reducible apply wpl_loadcellN); (exact rfl); infer_instance; (exact rfl)))
    go_ret
    exact ⟨rfl, stepN⟩
  have e1 : ¬ (4 : Int) < n := by omega
  by_cases h1 : need < 1
  · have hf : R = false := by rw [hRe, decide_eq_false (show ¬ 1 ≤ need by omega)]; simp
    rw [hf]
    clear hf hRe
    go_enter Tryz.func45, Tryz.ntmps45
    go_wp2_with (first | go_skip | ((with_reducible apply (wpl_box_agg (dst := some 1))); (exact rfl); intro zk wzk _ _ _) | ((with_reducible apply (wpl_guard (op := .load _ _))); (exact rfl)) | ((with_reducible apply (wpl_guard (op := .fieldAddr _ _ _))); (exact rfl)) | ((with_reducible apply wpl_loadcellN); (exact rfl); infer_instance; (exact rfl)))
    go_ret
    exact ⟨rfl, stepN⟩
  by_cases h2 : (n : Int) < need
  · have hf : R = false := by rw [hRe, decide_eq_false (show ¬ need ≤ (n : Int) by omega)]; simp
    rw [hf]
    clear hf hRe
    go_enter Tryz.func45, Tryz.ntmps45
    go_wp2_with (first | ((with_reducible apply (wpl_box_agg (dst := some 1))); (exact rfl); intro zk wzk _ _ _) | ((with_reducible apply (wpl_guard (op := .load _ _))); (exact rfl)) | ((with_reducible apply (wpl_guard (op := .fieldAddr _ _ _))); (exact rfl)) | ((with_reducible apply wpl_loadcellN); (exact rfl); infer_instance; (exact rfl)))
    go_ret
    exact ⟨rfl, stepN⟩
  have hf : R = allB l n := by rw [hRe, decide_eq_true (show n ≤ 4 by omega), decide_eq_true (show 1 ≤ need by omega), decide_eq_true (show need ≤ (n : Int) by omega)]; simp
  have HRE := Lib.hid hf
  clear hf hRe h4
  go_enter Tryz.func45, Tryz.ntmps45
  go_wp2_with (first | ((with_reducible apply (wpl_box_agg (dst := some 1))); (exact rfl); intro zk wzk _ _ _) | ((with_reducible apply (wpl_guard (op := .load _ _))); (exact rfl)) | ((with_reducible apply (wpl_guard (op := .fieldAddr _ _ _))); (exact rfl)) | ((with_reducible apply wpl_loadcellN); (exact rfl); infer_instance; (exact rfl)))
  go_loopw [25] (fun kv wr => ∃ k : Nat, k ≤ n ∧ kv = .int .i64 (k : Int) ∧ Hid (allB l k = true) ∧ Step nowhere w wr ∧ HB wr zk 73 #[.slice A n c, .int .i64 need]) (fun kv _ => n - (intOf kv).toNat)
  case atStart => exact ⟨0, Nat.zero_le _, rfl, Lib.hid rfl, stepN, inferInstance⟩
  case round =>
    obtain ⟨k, hk, rfl, HA, _, _⟩ := hrel
    by_cases hlt : k < n
    · have hltI : (k : Int) < n := by omega
      have hkl : k < l.length := by omega
      have hkc : k ≤ c := by omega
      have hmt := mem_take_iff l k hkl
      have HTL : Hid ((l.take k).length = k) := Lib.hid (by rw [List.length_take]; omega)
      by_cases hfr : freshB l k k = true
      · have hnm : decide (hget l k ∈ l.take k) = false := decide_eq_false (by rw [hmt, hfr]; simp)
        have HNM := Lib.hid hnm
        have HA2 : Hid (allB l (k + 1) = true) := Lib.hid (by rw [allB, HA.out, hfr]; rfl)
        clear hnm hmt hfr
        go_wp2_with (first | ((with_reducible apply (wpl_alloc (dst := some 4))); intro zh wzh _ _ _) | ((with_reducible apply wpl_storerow); (exact rfl); (exact rfl); infer_instance; infer_instance; (first | (with_reducible assumption) | (with_reducible exact H32.size _) | kernel_rfl); (first | (with_reducible assumption) | (with_reducible exact H32.size _) | kernel_rfl); (first | (with_reducible exact u8s_one _) | (with_reducible assumption) | kernel_rfl); intro ws _ _) | ((with_reducible apply wpl_indexH); (exact rfl); (exact rfl); infer_instance; infer_instance; (first | (with_reducible assumption) | omega); (first | (with_reducible assumption) | omega); (first | (with_reducible assumption) | omega)) | ((with_reducible apply (wpl_loadhash (t := 26))); (exact rfl); infer_instance; infer_instance; (first | (with_reducible assumption) | omega)))
        refine wp_region_N (nowhere) (by kernel_rfl) (fun wd _ _ => ?_)
        refine' takeH (i := 0) (v := _) rfl (by kernel_rfl) (by kernel_rfl) (by kernel_rfl) (fun _ _ _ h => h) (yields_of (by rfl) (fun w' _ => ?_)) inferInstance ?_
        rotate_left
        · (go_simp; try with_reducible rfl)
        try simp only [Act.put, sA]; try simp only [sB, sC]
        refine' takeH (i := 1) (v := _) rfl (by kernel_rfl) (by kernel_rfl) (by kernel_rfl) (fun _ _ _ h => h) (yields_of (by rfl) (fun w' _ => ?_)) inferInstance ?_
        rotate_left
        · ((with_reducible apply ev_loadcellN); (exact rfl); infer_instance; infer_instance; (exact rfl))
        try simp only [Act.put, sA]; try simp only [sB, sC]
        refine' takeH (i := 2) (v := _) rfl (by kernel_rfl) (by kernel_rfl) (by kernel_rfl) (fun _ _ _ h => h) (yields_of (by rfl) (fun w' _ => ?_)) inferInstance ?_
        rotate_left
        · (go_simp; try with_reducible rfl)
        try simp only [Act.put, sA]; try simp only [sB, sC]
        refine' takeH (i := 3) (v := _) rfl (by kernel_rfl) (by kernel_rfl) (by kernel_rfl) (fun _ _ _ h => h) (yields_of (by rfl) (fun w' _ => ?_)) inferInstance ?_
        rotate_left
        · ((with_reducible apply ev_sl_h); (exact rfl); (exact rfl); infer_instance; (first | (with_reducible assumption) | omega))
        try simp only [Act.put, sA]; try simp only [sB, sC]
        refine' takeH (i := 4) (v := _) rfl (by kernel_rfl) (by kernel_rfl) (by kernel_rfl) (fun _ _ _ h => h) (yields_of (by rfl) (fun w' _ => ?_)) inferInstance ?_
        rotate_left
        · ((with_reducible apply ev_loadrow); (exact rfl); infer_instance; infer_instance; (first | (with_reducible assumption) | (with_reducible exact H32.size _) | kernel_rfl))
        try simp only [Act.put, sA]; try simp only [sB, sC]
        refine goH (i := 5) (by kernel_rfl) rfl (fun K_ hK_ => ?_)
        go_simp
        refine (hcontains_calls (l := l.take k) (hr := HR.takeR inferInstance k) (hget l k) HTL.out (by omega)).mono ?_
        rw [HNM.out]
        rintro e w2 ⟨rfl, _⟩
        refine hK_.out _ _ inferInstance (fun _ => ?_)
        clear hK_ K_
        try simp only [Act.put, sA]; try simp only [sB, sC]
        refine wpAnyH_done (by kernel_rfl) ?_ _
        go_wp2_with fail
        exact ⟨⟨k + 1, by omega, by go_num, HA2, stepN, inferInstance⟩, by simp [intOf]; omega⟩
      · have hnm : decide (hget l k ∈ l.take k) = true := decide_eq_true (by rw [hmt]; simpa using hfr)
        have HNM := Lib.hid hnm
        have HF : Hid (allB l n = false) := Lib.hid (allB_false l k (by simpa using hfr) n hlt)
        clear hnm hmt hfr
        go_wp2_with (first | ((with_reducible apply (wpl_alloc (dst := some 4))); intro zh wzh _ _ _) | ((with_reducible apply wpl_storerow); (exact rfl); (exact rfl); infer_instance; infer_instance; (first | (with_reducible assumption) | (with_reducible exact H32.size _) | kernel_rfl); (first | (with_reducible assumption) | (with_reducible exact H32.size _) | kernel_rfl); (first | (with_reducible exact u8s_one _) | (with_reducible assumption) | kernel_rfl); intro ws _ _) | ((with_reducible apply wpl_indexH); (exact rfl); (exact rfl); infer_instance; infer_instance; (first | (with_reducible assumption) | omega); (first | (with_reducible assumption) | omega); (first | (with_reducible assumption) | omega)) | ((with_reducible apply (wpl_loadhash (t := 26))); (exact rfl); infer_instance; infer_instance; (first | (with_reducible assumption) | omega)))
        refine wp_region_N (nowhere) (by kernel_rfl) (fun wd _ _ => ?_)
        refine' takeH (i := 0) (v := _) rfl (by kernel_rfl) (by kernel_rfl) (by kernel_rfl) (fun _ _ _ h => h) (yields_of (by rfl) (fun w' _ => ?_)) inferInstance ?_
        rotate_left
        · (go_simp; try with_reducible rfl)
        try simp only [Act.put, sA]; try simp only [sB, sC]
        refine' takeH (i := 1) (v := _) rfl (by kernel_rfl) (by kernel_rfl) (by kernel_rfl) (fun _ _ _ h => h) (yields_of (by rfl) (fun w' _ => ?_)) inferInstance ?_
        rotate_left
        · ((with_reducible apply ev_loadcellN); (exact rfl); infer_instance; infer_instance; (exact rfl))
        try simp only [Act.put, sA]; try simp only [sB, sC]
        refine' takeH (i := 2) (v := _) rfl (by kernel_rfl) (by kernel_rfl) (by kernel_rfl) (fun _ _ _ h => h) (yields_of (by rfl) (fun w' _ => ?_)) inferInstance ?_
        rotate_left
        · (go_simp; try with_reducible rfl)
        try simp only [Act.put, sA]; try simp only [sB, sC]
        refine' takeH (i := 3) (v := _) rfl (by kernel_rfl) (by kernel_rfl) (by kernel_rfl) (fun _ _ _ h => h) (yields_of (by rfl) (fun w' _ => ?_)) inferInstance ?_
        rotate_left
        · ((with_reducible apply ev_sl_h); (exact rfl); (exact rfl); infer_instance; (first | (with_reducible assumption) | omega))
        try simp only [Act.put, sA]; try simp only [sB, sC]
        refine' takeH (i := 4) (v := _) rfl (by kernel_rfl) (by kernel_rfl) (by kernel_rfl) (fun _ _ _ h => h) (yields_of (by rfl) (fun w' _ => ?_)) inferInstance ?_
        rotate_left
        · ((with_reducible apply ev_loadrow); (exact rfl); infer_instance; infer_instance; (first | (with_reducible assumption) | (with_reducible exact H32.size _) | kernel_rfl))
        try simp only [Act.put, sA]; try simp only [sB, sC]
        refine goH (i := 5) (by kernel_rfl) rfl (fun K_ hK_ => ?_)
        go_simp
        refine (hcontains_calls (l := l.take k) (hr := HR.takeR inferInstance k) (hget l k) HTL.out (by omega)).mono ?_
        rw [HNM.out]
        rintro e w2 ⟨rfl, _⟩
        refine hK_.out _ _ inferInstance (fun _ => ?_)
        clear hK_ K_
        try simp only [Act.put, sA]; try simp only [sB, sC]
        refine wpAnyH_done (by kernel_rfl) ?_ _
        go_wp2_with fail
        go_ret
        refine ⟨?_, stepN⟩
        rw [HRE.out, HF.out]
        rfl
    · have hltI : ¬ (k : Int) < n := by omega
      have hkn : k = n := by omega
      have HKN := Lib.hid hkn
      clear hkn
      go_wp2_with fail
      go_ret
      refine ⟨?_, stepN⟩
      rw [HRE.out, ← HKN.out, HA.out]
      rfl
end Go.Proofs.YtmnapacibpnodaaGreat
end
section

end
