/- KeySigns. -/
import Derived.Test.YtmijlojjkgeplaaKyJ
import Derived.Test.YtmijlojjkgeplaaOpenQ
import Derived.Test.YtmijlojjkgeplaaBase
open Go Go.RowKit
namespace Go.Proofs.Ytmijlojjkgeplaa
instance : CellT Try.prog 39 := ⟨fun _ => by kernel_rfl, fun _ => by kernel_rfl⟩
instance : ElemT Try.prog 24 39 1 24 (.slice none 0 0) := ⟨⟨Try.underlying24, by kernel_rfl, rfl, by decide⟩⟩
def rget (l : List Row) (k : Nat) : Row := l.getD k ⟨none, 0, []⟩
theorem rget_mem (l : List Row) (k : Nat) (h : k < l.length) : rget l k ∈ l := by
  simp [rget, List.getD_eq_getElem?_getD, h]
theorem rows_at {l : List Row} {k : Nat} (h : k < l.length) : (cellsOf l)[k]? = some (.slice (rget l k).A (rget l k).p.length (rget l k).c) := by
  rw [cellsOf_rows]
  simp [rowsV, rget, List.getD_eq_getElem?_getD, h, Row.v]
def lsum (l : List Row) : Nat := (l.map fun r => 1 + r.p.length).sum
theorem lsum_take (l : List Row) (k : Nat) (h : k < l.length) : lsum (l.take (k + 1)) = lsum (l.take k) + 1 + (rget l k).p.length := by
  have e : l.take (k + 1) = l.take k ++ [rget l k] := by
    rw [List.take_add_one, List.getElem?_eq_getElem h]
    simp [rget, List.getD_eq_getElem?_getD, h]
  rw [e]
  simp only [lsum, List.map_append, List.sum_append, List.map_cons, List.map_nil, List.sum_cons, List.sum_nil]
  omega
theorem lsum_mem {l : List Row} {r : Row} (h : r ∈ l) : r.p.length ≤ lsum l := by
  induction l with
  | nil => cases h
  | cons a l ih =>
    have e : lsum (a :: l) = (1 + a.p.length) + lsum l := by simp [lsum]
    rcases List.mem_cons.1 h with rfl | h
    · omega
    · have := ih h
      omega
theorem lsum_bound {l : List Row} {C : Nat} (h : ∀ r ∈ l, r.p.length + 1 ≤ C) : ∀ k, lsum (l.take k) ≤ k * C := by
  intro k
  induction k with
  | zero => simp [lsum]
  | succ k ih =>
    rw [Nat.succ_mul]
    rcases Nat.lt_or_ge k l.length with hk | hk
    · rw [lsum_take l k hk]
      have := h _ (rget_mem l k hk)
      omega
    · rw [List.take_of_length_le (by omega)]
      rw [List.take_of_length_le hk] at ih
      omega
set_option maxRecDepth 100000 in
theorem klong_calls {A : Option Addr} {n c : Nat} {l : List Row} {w : World} [hr : HR w A (cellsOf l)] (hl : l.length = n) (hn : n ≤ 20) (hz : ∀ r ∈ l, r.p.length ≤ 140737488355328) :
    Calls Try.prog 18 #[.slice A n c] w fun e w' => e = .returned (.bool (decide (3000 < lsum l))) ∧ Step nowhere w w' := by
  have HLL := Lib.hid hl
  have HZ := Lib.hid hz
  have HRR := Lib.hid hr.out
  obtain ⟨B, hB⟩ : ∃ B, B = decide (3000 < lsum l) := ⟨_, rfl⟩
  have HB0 := Lib.hid hB
  rw [← hB]
  clear hl hz hB
  go_enter Try.func18, Try.ntmps18
  go_wp2_with fail
  go_loopw [3, 4] (fun nv iv wr => ∃ (k N : Nat), k ≤ n ∧ iv = .int .i64 (k : Int) ∧ nv = .int .i64 (N : Int) ∧ Hid (N = lsum (l.take k)) ∧ Step nowhere w wr) (fun _ iv _ => n - (intOf iv).toNat)
  case atStart => exact ⟨0, 0, Nat.zero_le _, rfl, rfl, Lib.hid (by simp [lsum]), stepN⟩
  case round =>
    obtain ⟨k, N, hk, rfl, rfl, HN, _⟩ := hrel
    have st : Step nowhere w wr := inferInstance
    by_cases hlt : k < n
    · have hltI : (k : Int) < n := by omega
      have hkl : k < l.length := by have := HLL.out; omega
      obtain ⟨ad, rfl, hc⟩ := (HRR.out.later st.chg) k _ (rows_at hkl)
      have hb := lsum_bound (C := 140737488355329) (fun r hr => by have := HZ.out r hr; omega) k
      have hb1 := HZ.out _ (rget_mem l k hkl)
      have hN := HN.out
      have htk := lsum_take l k hkl
      have hNb : N ≤ 20 * 140737488355329 := by
        have : k * 140737488355329 ≤ 20 * 140737488355329 := Nat.mul_le_mul_right _ (by omega)
        omega
      obtain ⟨m, hm⟩ : ∃ m, m = (rget l k).p.length := ⟨_, rfl⟩
      rw [← hm] at hc hb1 htk
      have HTK : Hid (N + 1 + m = lsum (l.take (k + 1))) := Lib.hid (by rw [htk, hN])
      generalize (rget l k).c = c9 at hc
      generalize (rget l k).A = A9 at hc
      clear hb hN htk hm hkl
      go_wp2_with fail
      exact ⟨⟨k + 1, N + 1 + m, by omega, by go_num, by go_num, HTK, st⟩, by simp [intOf]; omega⟩
    · obtain rfl : k = n := by omega
      have hltI : (k : Int) ≤ k := by omega
      have hN := HN.out
      rw [List.take_of_length_le (by have := HLL.out; omega)] at hN
      have HB1 : Hid (decide (3000 < (N : Int)) = B) := Lib.hid (by rw [HB0.out, ← hN, decide_eq_decide]; omega)
      clear hN
      go_wp2_with fail
      go_ret
      exact ⟨congrArg (fun b => Ending.returned (.bool b)) HB1.out, st⟩
set_option maxRecDepth 100000 in
theorem rsignUsed_calls {zk : Nat} {seed pub : H32} {used : Int} {L : Option Addr} {lc : Nat} (A : Option Addr) (n c : Nat) (w : World) [hk : HB w zk 33 (refL seed L 16 lc pub used).toArray] (hu : 16 ≤ used) :
    Calls Try.prog 23 #[.pointer (some ⟨zk, 0, none⟩), .slice A n c] w fun e w' => e = .returned (.tuple #[.agg #[.int .i64 0, .slice none 0 0, .slice none 0 0], .int .i64 3]) ∧ Step nowhere w w' := by
  have kb0 : ∀ w, (Instr.build 35 #[]).run Try.prog w = .ok (.agg #[.int .i64 0, .slice none 0 0, .slice none 0 0]) w := fun _ => by kernel_rfl
  go_enter Try.func23, Try.ntmps23
  go_wp2_with (first | ((with_reducible apply wpl_build); (exact kb0 _)) | ((with_reducible apply (wpl_rN (t := 3))); (exact rfl); (exact inferInstance); (exact inferInstance)) | ((with_reducible apply (wpl_alloc (dst := some 4))); intro zo wzo _ _ _) | ((with_reducible apply wpl_alloc); intro z wz _ _ _) | ((with_reducible apply wpl_loadrow); (exact rfl); (exact inferInstance); (exact inferInstance); (first | (with_reducible assumption) | (with_reducible exact H32.size _) | kernel_rfl)) | ((with_reducible apply wpl_loadcellN); (exact rfl); (exact inferInstance); (exact rfl)) | ((with_reducible apply wpl_storerow); (exact rfl); (exact rfl); (exact inferInstance); (exact inferInstance); (first | (with_reducible assumption) | (with_reducible exact H32.size _) | kernel_rfl); (first | (with_reducible assumption) | (with_reducible exact H32.size _) | kernel_rfl); (first | (with_reducible exact u8s_one _) | (with_reducible assumption) | kernel_rfl); intro ws _ _) | ((with_reducible apply wpl_storecell); (exact rfl); (exact rfl); (exact inferInstance); (exact rfl); (first | (with_reducible assumption) | omega | (focus (simp; done)) | (focus (simp; omega; done)) | decide); intro ws _ _) | ((with_reducible apply (wpl_loadhash (t := 23))); (exact rfl); (exact inferInstance); (exact inferInstance); (first | (with_reducible assumption) | omega)) | ((with_reducible apply (wpl_storehash (t := 23))); (exact rfl); (exact rfl); (exact inferInstance); (exact inferInstance); (first | (with_reducible assumption) | omega | (focus (simp; done)) | (focus (simp; omega; done)) | decide); intro ws _ _) | ((with_reducible apply (wpl_loadint (t := 3))); (exact rfl); (exact inferInstance); (exact inferInstance); (first | (with_reducible assumption) | omega)) | ((with_reducible apply (wpl_loadbyte (t := 5))); (exact rfl); (exact inferInstance); (exact inferInstance); (first | (with_reducible assumption) | omega)) | ((with_reducible apply (wpl_storeint (t := 3))); (exact rfl); (exact rfl); (exact inferInstance); (first | (with_reducible assumption) | omega); intro ws _ _) | ((with_reducible apply (wpl_storebyte (t := 5))); (exact rfl); (exact rfl); (exact inferInstance); (first | (with_reducible assumption) | omega | (focus (simp; done)) | (focus (simp; omega; done)) | decide); (constructor <;> omega); intro ws _ _))
  exact ret_row_ rfl rfl rfl (n := 3) rfl rfl ⟨rfl, stepN⟩
set_option maxRecDepth 100000 in
set_option maxHeartbeats 3200000 in
theorem keySigns_calls (seed : H32) (used : Int) {A : Option Addr} {n c : Nat} {l : List Row} {w : World} [hr : HR w A (cellsOf l)] (hl : l.length = n) (hmax : n ≤ 9223372036854775807) (hok : ∀ r ∈ l, RowIn w r) (hz : ∀ r ∈ l, r.p.length ≤ 140737488355328) :
    Calls Try.prog 3 #[.agg (u8s seed.l), .int .i64 used, .slice A n c] w fun e w' => e = .returned (.bool true) ∧ Chg nowhere w w' := by
  have HRR := Lib.hid hr.out
  have HOK := Lib.hid hok
  have HZ := Lib.hid hz
  have HLL := Lib.hid hl
  clear hok hz
  by_cases c1 : 20 < n
  · have c1' : 20 < (n : Int) := by omega
    go_enter Try.func3, Try.ntmps3
    go_wp2_with (first | go_skip | ((with_reducible apply (wpl_alloc (dst := some 3))); intro zs wzs _ _ _) | ((with_reducible apply (wpl_box_agg (dst := some 3))); (exact rfl); intro zs wzs _ _ _) | ((with_reducible apply (wpl_box_int (dst := some 3))); (exact rfl); intro zs wzs _ _ _) | ((with_reducible apply (wpl_box_slice (dst := some 3))); (exact rfl); intro zs wzs _ _ _) | ((with_reducible apply (wpl_box_str (dst := some 3))); (exact rfl); intro zs wzs _ _ _) | ((with_reducible apply (wpl_box_bool (dst := some 3))); (exact rfl); intro zs wzs _ _ _) | ((with_reducible apply (wpl_box_ptr (dst := some 3))); (exact rfl); intro zs wzs _ _ _) | ((with_reducible apply wpl_alloc); intro z wz _ _ _) | ((with_reducible apply wpl_box_agg); (exact rfl); intro z wz _ _ _) | ((with_reducible apply wpl_box_int); (exact rfl); intro z wz _ _ _) | ((with_reducible apply wpl_box_slice); (exact rfl); intro z wz _ _ _) | ((with_reducible apply wpl_box_str); (exact rfl); intro z wz _ _ _) | ((with_reducible apply wpl_box_bool); (exact rfl); intro z wz _ _ _) | ((with_reducible apply wpl_box_ptr); (exact rfl); intro z wz _ _ _) | ((with_reducible apply (wpl_guard (op := .load _ _))); (exact rfl)) | ((with_reducible apply (wpl_guard (op := .fieldAddr _ _ _))); (exact rfl)) | ((with_reducible apply wpl_loadrow); (exact rfl); (exact inferInstance); (exact inferInstance); (first | (with_reducible assumption) | (with_reducible exact H32.size _) | kernel_rfl)) | ((with_reducible apply wpl_loadcellN); (exact rfl); (exact inferInstance); (exact rfl)) | ((with_reducible apply wpl_storerow); (exact rfl); (exact rfl); (exact inferInstance); (exact inferInstance); (first | (with_reducible assumption) | (with_reducible exact H32.size _) | kernel_rfl); (first | (with_reducible assumption) | (with_reducible exact H32.size _) | kernel_rfl); (first | (with_reducible exact u8s_one _) | (with_reducible assumption) | kernel_rfl); intro ws _ _) | ((with_reducible apply wpl_storecell); (exact rfl); (exact rfl); (exact inferInstance); (exact rfl); (first | (with_reducible assumption) | omega | (focus (simp; done)) | (focus (simp; omega; done)) | decide); intro ws _ _))
    go_ret
    exact ⟨rfl, (stepN (w0 := w)).chg⟩
  · have c1' : ¬ 20 < (n : Int) := by omega
    obtain ⟨N, hN⟩ : ∃ N, N = pubS seed := ⟨_, rfl⟩
    have HN := Lib.hid hN
    obtain ⟨u0, hu0⟩ : ∃ u0, u0 = min (max used 0) 16 := ⟨_, rfl⟩
    have hu1 : 0 ≤ u0 ∧ u0 ≤ 16 := by omega
    have HU0 := Lib.hid hu0
    have hq : ∀ w, (binOp .neq 23 (.agg (u8s N.l)) (.agg (u8s N.l))).run Try.prog w = .ok (.bool false) w := fun w => by rw [neqH]; simp
    clear hN hu0
    go_enter Try.func3, Try.ntmps3
    go_wp2_with (first | go_skip | ((with_reducible apply (wpl_alloc (dst := some 3))); intro zs wzs _ _ _) | ((with_reducible apply (wpl_box_agg (dst := some 3))); (exact rfl); intro zs wzs _ _ _) | ((with_reducible apply (wpl_box_int (dst := some 3))); (exact rfl); intro zs wzs _ _ _) | ((with_reducible apply (wpl_box_slice (dst := some 3))); (exact rfl); intro zs wzs _ _ _) | ((with_reducible apply (wpl_box_str (dst := some 3))); (exact rfl); intro zs wzs _ _ _) | ((with_reducible apply (wpl_box_bool (dst := some 3))); (exact rfl); intro zs wzs _ _ _) | ((with_reducible apply (wpl_box_ptr (dst := some 3))); (exact rfl); intro zs wzs _ _ _) | ((with_reducible apply wpl_alloc); intro z wz _ _ _) | ((with_reducible apply wpl_box_agg); (exact rfl); intro z wz _ _ _) | ((with_reducible apply wpl_box_int); (exact rfl); intro z wz _ _ _) | ((with_reducible apply wpl_box_slice); (exact rfl); intro z wz _ _ _) | ((with_reducible apply wpl_box_str); (exact rfl); intro z wz _ _ _) | ((with_reducible apply wpl_box_bool); (exact rfl); intro z wz _ _ _) | ((with_reducible apply wpl_box_ptr); (exact rfl); intro z wz _ _ _) | ((with_reducible apply (wpl_guard (op := .load _ _))); (exact rfl)) | ((with_reducible apply (wpl_guard (op := .fieldAddr _ _ _))); (exact rfl)) | ((with_reducible apply wpl_loadrow); (exact rfl); (exact inferInstance); (exact inferInstance); (first | (with_reducible assumption) | (with_reducible exact H32.size _) | kernel_rfl)) | ((with_reducible apply wpl_loadcellN); (exact rfl); (exact inferInstance); (exact rfl)) | ((with_reducible apply wpl_storerow); (exact rfl); (exact rfl); (exact inferInstance); (exact inferInstance); (first | (with_reducible assumption) | (with_reducible exact H32.size _) | kernel_rfl); (first | (with_reducible assumption) | (with_reducible exact H32.size _) | kernel_rfl); (first | (with_reducible exact u8s_one _) | (with_reducible assumption) | kernel_rfl); intro ws _ _) | ((with_reducible apply wpl_storecell); (exact rfl); (exact rfl); (exact inferInstance); (exact rfl); (first | (with_reducible assumption) | omega | (focus (simp; done)) | (focus (simp; omega; done)) | decide); intro ws _ _))
    refine (klong_calls HLL.out (by omega) HZ.out).mono ?_
    rintro e w1 ⟨rfl, _⟩
    by_cases c2 : 3000 < lsum l
    · have e2 : decide (3000 < lsum l) = true := decide_eq_true c2
      rw [e2]
      go_wp2_with (first | go_skip | ((with_reducible apply wpl_alloc); intro z wz _ _ _) | ((with_reducible apply wpl_box_agg); (exact rfl); intro z wz _ _ _) | ((with_reducible apply wpl_box_int); (exact rfl); intro z wz _ _ _) | ((with_reducible apply wpl_box_slice); (exact rfl); intro z wz _ _ _) | ((with_reducible apply wpl_box_str); (exact rfl); intro z wz _ _ _) | ((with_reducible apply wpl_box_bool); (exact rfl); intro z wz _ _ _) | ((with_reducible apply wpl_box_ptr); (exact rfl); intro z wz _ _ _) | ((with_reducible apply (wpl_guard (op := .load _ _))); (exact rfl)) | ((with_reducible apply (wpl_guard (op := .fieldAddr _ _ _))); (exact rfl)) | ((with_reducible apply wpl_loadrow); (exact rfl); (exact inferInstance); (exact inferInstance); (first | (with_reducible assumption) | (with_reducible exact H32.size _) | kernel_rfl)) | ((with_reducible apply wpl_loadcellN); (exact rfl); (exact inferInstance); (exact rfl)) | ((with_reducible apply wpl_storerow); (exact rfl); (exact rfl); (exact inferInstance); (exact inferInstance); (first | (with_reducible assumption) | (with_reducible exact H32.size _) | kernel_rfl); (first | (with_reducible assumption) | (with_reducible exact H32.size _) | kernel_rfl); (first | (with_reducible exact u8s_one _) | (with_reducible assumption) | kernel_rfl); intro ws _ _) | ((with_reducible apply wpl_storecell); (exact rfl); (exact rfl); (exact inferInstance); (exact rfl); (first | (with_reducible assumption) | omega | (focus (simp; done)) | (focus (simp; omega; done)) | decide); intro ws _ _))
      go_ret
      exact ⟨rfl, (stepN (w0 := w)).chg⟩
    · have e2 : decide (3000 < lsum l) = false := decide_eq_false c2
      rw [e2]
      have HS : Hid (∀ r ∈ l, r.p.length ≤ 3000) := Lib.hid (fun r hr => by have := lsum_mem hr; omega)
      clear e2 c2
      go_wp2_with (first | go_skip | ((with_reducible apply wpl_alloc); intro z wz _ _ _) | ((with_reducible apply wpl_box_agg); (exact rfl); intro z wz _ _ _) | ((with_reducible apply wpl_box_int); (exact rfl); intro z wz _ _ _) | ((with_reducible apply wpl_box_slice); (exact rfl); intro z wz _ _ _) | ((with_reducible apply wpl_box_str); (exact rfl); intro z wz _ _ _) | ((with_reducible apply wpl_box_bool); (exact rfl); intro z wz _ _ _) | ((with_reducible apply wpl_box_ptr); (exact rfl); intro z wz _ _ _) | ((with_reducible apply (wpl_guard (op := .load _ _))); (exact rfl)) | ((with_reducible apply (wpl_guard (op := .fieldAddr _ _ _))); (exact rfl)) | ((with_reducible apply wpl_loadrow); (exact rfl); (exact inferInstance); (exact inferInstance); (first | (with_reducible assumption) | (with_reducible exact H32.size _) | kernel_rfl)) | ((with_reducible apply wpl_loadcellN); (exact rfl); (exact inferInstance); (exact rfl)) | ((with_reducible apply wpl_storerow); (exact rfl); (exact rfl); (exact inferInstance); (exact inferInstance); (first | (with_reducible assumption) | (with_reducible exact H32.size _) | kernel_rfl); (first | (with_reducible assumption) | (with_reducible exact H32.size _) | kernel_rfl); (first | (with_reducible exact u8s_one _) | (with_reducible assumption) | kernel_rfl); intro ws _ _) | ((with_reducible apply wpl_storecell); (exact rfl); (exact rfl); (exact inferInstance); (exact rfl); (first | (with_reducible assumption) | omega | (focus (simp; done)) | (focus (simp; omega; done)) | decide); intro ws _ _))
      refine wp_region_N (nowhere) (by kernel_rfl) (fun wd _ _ => ?_)
      refine' takeH (i := 0) (v := _) rfl (by kernel_rfl) (by kernel_rfl) (by kernel_rfl) (fun _ _ _ h => h) (yields_of (by rfl) (fun w' _ => ?_)) inferInstance ?_
      rotate_left
      · (first | ((with_reducible apply (ev_loadRPub (t := 23))); (exact rfl); (exact inferInstance); (exact inferInstance)) | ((with_reducible apply (ev_loadRSeed (t := 23))); (exact rfl); (exact inferInstance); (exact inferInstance)) | ((with_reducible apply (ev_loadRN (t := 3))); (exact rfl); (exact inferInstance); (exact inferInstance)) | ((with_reducible apply (ev_loadRL (t := 31))); (exact rfl); (exact inferInstance); (exact inferInstance)) | ((with_reducible apply (ev_loadKSeed (t := 23))); (exact rfl); (exact inferInstance); (exact inferInstance)) | ((with_reducible apply (ev_loadKUsed (t := 3))); (exact rfl); (exact inferInstance); (exact inferInstance)) | ((with_reducible apply ev_loadrow); (exact rfl); (exact inferInstance); (exact inferInstance); (first | (with_reducible assumption) | (with_reducible exact H32.size _) | kernel_rfl)) | ((with_reducible apply (ev_loadhash (t := 23))); (exact rfl); (exact inferInstance); (exact inferInstance); (first | (with_reducible assumption) | omega)) | ((with_reducible apply ev_loadcellN); (exact rfl); (exact inferInstance); (exact inferInstance); (exact rfl)) | ((with_reducible apply (ev_loadint (t := 3))); (exact rfl); (exact inferInstance); (exact inferInstance); (first | (with_reducible assumption) | omega)) | ((with_reducible apply (ev_loadbyte (t := 5))); (exact rfl); (exact inferInstance); (exact inferInstance); (first | (with_reducible assumption) | omega)) | (go_simp; try with_reducible rfl))
      try simp only [Act.put, List.setIfInBounds_toArray]; try simp only [List.set_cons_succ, List.set_cons_zero]
      refine' takeH (i := 1) (v := _) rfl (by kernel_rfl) (by kernel_rfl) (by kernel_rfl) (fun _ _ _ h => h) (yields_of (by rfl) (fun w' _ => ?_)) inferInstance ?_
      rotate_left
      · (go_simp; try with_reducible rfl)
      try simp only [Act.put, List.setIfInBounds_toArray]; try simp only [List.set_cons_succ, List.set_cons_zero]
      refine' takeH (i := 3) (v := _) rfl (by kernel_rfl) (by kernel_rfl) (by kernel_rfl) (fun _ _ _ h => h) (yields_of (by rfl) (fun w' _ => ?_)) inferInstance ?_
      rotate_left
      · (first | ((with_reducible apply (ev_loadRPub (t := 23))); (exact rfl); (exact inferInstance); (exact inferInstance)) | ((with_reducible apply (ev_loadRSeed (t := 23))); (exact rfl); (exact inferInstance); (exact inferInstance)) | ((with_reducible apply (ev_loadRN (t := 3))); (exact rfl); (exact inferInstance); (exact inferInstance)) | ((with_reducible apply (ev_loadRL (t := 31))); (exact rfl); (exact inferInstance); (exact inferInstance)) | ((with_reducible apply (ev_loadKSeed (t := 23))); (exact rfl); (exact inferInstance); (exact inferInstance)) | ((with_reducible apply (ev_loadKUsed (t := 3))); (exact rfl); (exact inferInstance); (exact inferInstance)) | ((with_reducible apply ev_loadrow); (exact rfl); (exact inferInstance); (exact inferInstance); (first | (with_reducible assumption) | (with_reducible exact H32.size _) | kernel_rfl)) | ((with_reducible apply (ev_loadhash (t := 23))); (exact rfl); (exact inferInstance); (exact inferInstance); (first | (with_reducible assumption) | omega)) | ((with_reducible apply ev_loadcellN); (exact rfl); (exact inferInstance); (exact inferInstance); (exact rfl)) | ((with_reducible apply (ev_loadint (t := 3))); (exact rfl); (exact inferInstance); (exact inferInstance); (first | (with_reducible assumption) | omega)) | ((with_reducible apply (ev_loadbyte (t := 5))); (exact rfl); (exact inferInstance); (exact inferInstance); (first | (with_reducible assumption) | omega)) | (go_simp; try with_reducible rfl))
      try simp only [Act.put, List.setIfInBounds_toArray]; try simp only [List.set_cons_succ, List.set_cons_zero]
      refine' takeH (i := 4) (v := _) rfl (by kernel_rfl) (by kernel_rfl) (by kernel_rfl) (fun _ _ _ h => h) (yields_of (by rfl) (fun w' _ => ?_)) inferInstance ?_
      rotate_left
      · (go_simp; try with_reducible rfl)
      try simp only [Act.put, List.setIfInBounds_toArray]; try simp only [List.set_cons_succ, List.set_cons_zero]
      refine goH (i := 2) (by kernel_rfl) rfl (fun K_ hK_ => ?_)
      go_simp
      refine (new_calls seed used _).mono ?_
      rw [← HU0.out]
      rintro e w5 ⟨zk, rfl, _, hnz, _⟩
      refine hK_.out _ _ inferInstance (fun _ => ?_)
      clear hK_ K_
      try simp only [Act.put, List.setIfInBounds_toArray]; try simp only [List.set_cons_succ, List.set_cons_zero]
      refine goH (i := 5) (by kernel_rfl) rfl (fun K_ hK_ => ?_)
      go_simp
      refine (rnew_calls seed used _).mono ?_
      rw [← HU0.out, ← HN.out]
      rintro e w6 ⟨zx, L, lc, rfl, _, hnx, hnL, oLx, hlc, _, _⟩
      refine hK_.out _ _ inferInstance (fun _ => ?_)
      clear hK_ K_
      try simp only [Act.put, List.setIfInBounds_toArray]; try simp only [List.set_cons_succ, List.set_cons_zero]
      refine' takeH (i := 6) (v := _) rfl (by kernel_rfl) (by kernel_rfl) (by kernel_rfl) (fun _ _ _ h => h) (yields_of (by rfl) (fun w' _ => ?_)) inferInstance ?_
      rotate_left
      · (go_simp; try with_reducible rfl)
      try simp only [Act.put, List.setIfInBounds_toArray]; try simp only [List.set_cons_succ, List.set_cons_zero]
      refine' takeH (i := 7) (v := _) rfl (by kernel_rfl) (by kernel_rfl) (by kernel_rfl) (fun _ _ _ h => h) (yields_of (by rfl) (fun w' _ => ?_)) inferInstance ?_
      rotate_left
      · (go_simp; try with_reducible rfl)
      try simp only [Act.put, List.setIfInBounds_toArray]; try simp only [List.set_cons_succ, List.set_cons_zero]
      refine wpAnyH_done (by kernel_rfl) ?_ _
      have hzk : w.heap.size ≤ zk := Nat.le_trans (stepN (w0 := w)).chg.size hnz.out
      have hzx : w.heap.size ≤ zx := Nat.le_trans (stepN (w0 := w)).chg.size hnx.out
      have ox : OffB (only zk) zx := ⟨fun e => by
        have e' : zx = zk := e
        have h1 := hnx.out
        have h2 := (inferInstance : KeyAt w5 zk seed u0).lt
        omega⟩
      have oxk : OffB (only zx) zk := ⟨fun e => ox.out (show zx = zk from Eq.symm e)⟩
      have oL : OffB (rowOf L) zk := ⟨fun ⟨ad, e, e2⟩ => by
        have h1 := hnL.out ad e
        have h2 := (inferInstance : KeyAt w5 zk seed u0).lt
        omega⟩
      have n6 : Nw w w6 := inferInstance
      have k6 : KeyAt w6 zk seed u0 := inferInstance
      go_wp2_with (first | go_skip | ((with_reducible apply wpl_alloc); intro z wz _ _ _) | ((with_reducible apply wpl_box_agg); (exact rfl); intro z wz _ _ _) | ((with_reducible apply wpl_box_int); (exact rfl); intro z wz _ _ _) | ((with_reducible apply wpl_box_slice); (exact rfl); intro z wz _ _ _) | ((with_reducible apply wpl_box_str); (exact rfl); intro z wz _ _ _) | ((with_reducible apply wpl_box_bool); (exact rfl); intro z wz _ _ _) | ((with_reducible apply wpl_box_ptr); (exact rfl); intro z wz _ _ _) | ((with_reducible apply (wpl_guard (op := .load _ _))); (exact rfl)) | ((with_reducible apply (wpl_guard (op := .fieldAddr _ _ _))); (exact rfl)) | ((with_reducible apply wpl_loadrow); (exact rfl); (exact inferInstance); (exact inferInstance); (first | (with_reducible assumption) | (with_reducible exact H32.size _) | kernel_rfl)) | ((with_reducible apply wpl_loadcellN); (exact rfl); (exact inferInstance); (exact rfl)) | ((with_reducible apply wpl_storerow); (exact rfl); (exact rfl); (exact inferInstance); (exact inferInstance); (first | (with_reducible assumption) | (with_reducible exact H32.size _) | kernel_rfl); (first | (with_reducible assumption) | (with_reducible exact H32.size _) | kernel_rfl); (first | (with_reducible exact u8s_one _) | (with_reducible assumption) | kernel_rfl); intro ws _ _) | ((with_reducible apply wpl_storecell); (exact rfl); (exact rfl); (exact inferInstance); (exact rfl); (first | (with_reducible assumption) | omega | (focus (simp; done)) | (focus (simp; omega; done)) | decide); intro ws _ _))
      refine wp_region_N ((only zk)) (by kernel_rfl) (fun wd _ _ => ?_)
      refine' takeH (i := 0) (v := _) rfl (by kernel_rfl) (by kernel_rfl) (by kernel_rfl) (fun _ _ _ h => h) (yields_of (by rfl) (fun w' _ => ?_)) inferInstance ?_
      rotate_left
      · (go_simp; try with_reducible rfl)
      try simp only [Act.put, List.setIfInBounds_toArray]; try simp only [List.set_cons_succ, List.set_cons_zero]
      refine' takeH (i := 1) (v := _) rfl (by kernel_rfl) (by kernel_rfl) (by kernel_rfl) (fun _ _ _ h => h) (yields_of (by rfl) (fun w' _ => ?_)) inferInstance ?_
      rotate_left
      · (go_simp; try with_reducible rfl)
      try simp only [Act.put, List.setIfInBounds_toArray]; try simp only [List.set_cons_succ, List.set_cons_zero]
      refine' takeH (i := 2) (v := _) rfl (by kernel_rfl) (by kernel_rfl) (by kernel_rfl) (fun _ _ _ h => h) (yields_of (by rfl) (fun w' _ => ?_)) inferInstance ?_
      rotate_left
      · (go_simp; try with_reducible rfl)
      try simp only [Act.put, List.setIfInBounds_toArray]; try simp only [List.set_cons_succ, List.set_cons_zero]
      refine' takeH (i := 3) (v := _) rfl (by kernel_rfl) (by kernel_rfl) (by kernel_rfl) (fun _ _ _ h => h) (yields_of (by rfl) (fun w' _ => ?_)) inferInstance ?_
      rotate_left
      · (go_simp; try with_reducible rfl)
      try simp only [Act.put, List.setIfInBounds_toArray]; try simp only [List.set_cons_succ, List.set_cons_zero]
      refine' takeH (i := 5) (v := _) rfl (by kernel_rfl) (by kernel_rfl) (by kernel_rfl) (fun _ _ _ h => h) (yields_of (by rfl) (fun w' _ => ?_)) inferInstance ?_
      rotate_left
      · (go_simp; try with_reducible rfl)
      try simp only [Act.put, List.setIfInBounds_toArray]; try simp only [List.set_cons_succ, List.set_cons_zero]
      refine' takeH (i := 6) (v := _) rfl (by kernel_rfl) (by kernel_rfl) (by kernel_rfl) (fun _ _ _ h => h) (yields_of (by rfl) (fun w' _ => ?_)) inferInstance ?_
      rotate_left
      · (go_simp; try with_reducible rfl)
      try simp only [Act.put, List.setIfInBounds_toArray]; try simp only [List.set_cons_succ, List.set_cons_zero]
      refine' takeH (i := 7) (v := _) rfl (by kernel_rfl) (by kernel_rfl) (by kernel_rfl) (fun _ _ _ h => h) (yields_of (by rfl) (fun w' _ => ?_)) inferInstance ?_
      rotate_left
      · (go_simp; try with_reducible rfl)
      try simp only [Act.put, List.setIfInBounds_toArray]; try simp only [List.set_cons_succ, List.set_cons_zero]
      refine' takeH (i := 8) (v := _) rfl (by kernel_rfl) (by kernel_rfl) (by kernel_rfl) (fun _ _ _ h => h) (yields_of (by rfl) (fun w' _ => ?_)) inferInstance ?_
      rotate_left
      · (first | ((with_reducible apply (ev_loadRPub (t := 23))); (exact rfl); (exact inferInstance); (exact inferInstance)) | ((with_reducible apply (ev_loadRSeed (t := 23))); (exact rfl); (exact inferInstance); (exact inferInstance)) | ((with_reducible apply (ev_loadRN (t := 3))); (exact rfl); (exact inferInstance); (exact inferInstance)) | ((with_reducible apply (ev_loadRL (t := 31))); (exact rfl); (exact inferInstance); (exact inferInstance)) | ((with_reducible apply (ev_loadKSeed (t := 23))); (exact rfl); (exact inferInstance); (exact inferInstance)) | ((with_reducible apply (ev_loadKUsed (t := 3))); (exact rfl); (exact inferInstance); (exact inferInstance)) | ((with_reducible apply ev_loadrow); (exact rfl); (exact inferInstance); (exact inferInstance); (first | (with_reducible assumption) | (with_reducible exact H32.size _) | kernel_rfl)) | ((with_reducible apply (ev_loadhash (t := 23))); (exact rfl); (exact inferInstance); (exact inferInstance); (first | (with_reducible assumption) | omega)) | ((with_reducible apply ev_loadcellN); (exact rfl); (exact inferInstance); (exact inferInstance); (exact rfl)) | ((with_reducible apply (ev_loadint (t := 3))); (exact rfl); (exact inferInstance); (exact inferInstance); (first | (with_reducible assumption) | omega)) | ((with_reducible apply (ev_loadbyte (t := 5))); (exact rfl); (exact inferInstance); (exact inferInstance); (first | (with_reducible assumption) | omega)) | (go_simp; try with_reducible rfl))
      try simp only [Act.put, List.setIfInBounds_toArray]; try simp only [List.set_cons_succ, List.set_cons_zero]
      refine goH (i := 4) (by kernel_rfl) rfl (fun K_ hK_ => ?_)
      go_simp
      refine (kpublic_calls (zk := zk)).mono ?_
      rw [← HN.out]
      rintro e w7 ⟨rfl, _, _⟩
      refine hK_.out _ _ inferInstance (fun _ => ?_)
      clear hK_ K_
      try simp only [Act.put, List.setIfInBounds_toArray]; try simp only [List.set_cons_succ, List.set_cons_zero]
      refine' takeH (i := 9) (v := _) rfl (by kernel_rfl) (by kernel_rfl) (by kernel_rfl) (fun _ _ _ h => h) (yields_of (by rfl) (fun w' _ => ?_)) inferInstance ?_
      rotate_left
      · (go_simp; try with_reducible rfl)
      try simp only [Act.put, List.setIfInBounds_toArray]; try simp only [List.set_cons_succ, List.set_cons_zero]
      refine' takeH (i := 10) (v := _) rfl (by kernel_rfl) (by kernel_rfl) (by kernel_rfl) (fun _ _ _ h => h) (yields_of (by rfl) (fun w' _ => ?_)) inferInstance ?_
      rotate_left
      · (go_simp; try with_reducible rfl)
      try simp only [Act.put, List.setIfInBounds_toArray]; try simp only [List.set_cons_succ, List.set_cons_zero]
      refine wpAnyH_done (by kernel_rfl) ?_ _
      have n7 : Nw w w7 := inferInstance
      have k7 : KeyAt w7 zk seed u0 := inferInstance
      have x7 : HB w7 zx 33 (refL seed L 16 lc N u0).toArray := inferInstance
      have l7 : HO w7 23 32 L 16 lc (cellsOf (leavesS seed)) := inferInstance
      go_wp2_with (first | go_skip | ((with_reducible apply wpl_alloc); intro z wz _ _ _) | ((with_reducible apply wpl_box_agg); (exact rfl); intro z wz _ _ _) | ((with_reducible apply wpl_box_int); (exact rfl); intro z wz _ _ _) | ((with_reducible apply wpl_box_slice); (exact rfl); intro z wz _ _ _) | ((with_reducible apply wpl_box_str); (exact rfl); intro z wz _ _ _) | ((with_reducible apply wpl_box_bool); (exact rfl); intro z wz _ _ _) | ((with_reducible apply wpl_box_ptr); (exact rfl); intro z wz _ _ _) | ((with_reducible apply (wpl_guard (op := .load _ _))); (exact rfl)) | ((with_reducible apply (wpl_guard (op := .fieldAddr _ _ _))); (exact rfl)) | ((with_reducible apply wpl_loadrow); (exact rfl); (exact inferInstance); (exact inferInstance); (first | (with_reducible assumption) | (with_reducible exact H32.size _) | kernel_rfl)) | ((with_reducible apply wpl_loadcellN); (exact rfl); (exact inferInstance); (exact rfl)) | ((with_reducible apply wpl_storerow); (exact rfl); (exact rfl); (exact inferInstance); (exact inferInstance); (first | (with_reducible assumption) | (with_reducible exact H32.size _) | kernel_rfl); (first | (with_reducible assumption) | (with_reducible exact H32.size _) | kernel_rfl); (first | (with_reducible exact u8s_one _) | (with_reducible assumption) | kernel_rfl); intro ws _ _) | ((with_reducible apply wpl_storecell); (exact rfl); (exact rfl); (exact inferInstance); (exact rfl); (first | (with_reducible assumption) | omega | (focus (simp; done)) | (focus (simp; omega; done)) | decide); intro ws _ _))
      go_loopw [9] (fun kv wr => ∃ (k : Nat) (u : Int), k ≤ n ∧ kv = .int .i64 (k : Int) ∧ 0 ≤ u ∧ u ≤ 16 ∧ Step nowhere w wr ∧ KeyAt wr zk seed u ∧ HB wr zx 33 (refL seed L 16 lc N u).toArray ∧ HO wr 23 32 L 16 lc (cellsOf (leavesS seed))) (fun kv _ => n - (intOf kv).toNat)
      case atStart => exact ⟨0, u0, Nat.zero_le _, rfl, hu1.1, hu1.2, stepN, inferInstance, inferInstance, inferInstance⟩
      case round =>
        clear k7 x7 l7 n7 k6 n6
        obtain ⟨k, u, hk, rfl, hu2, hu3, _, _, _, _⟩ := hrel
        have st : Step nowhere w wr := inferInstance
        have HST := Lib.hid st.chg
        by_cases hlt : k < n
        · have hltI : (k : Int) < n := by omega
          have hkl : k < l.length := by have := HLL.out; omega
          obtain ⟨r, hrg⟩ : ∃ r, r = rget l k := ⟨_, rfl⟩
          have hmem : r ∈ l := by rw [hrg]; exact rget_mem l k hkl
          have hrow := rows_at hkl
          rw [← hrg] at hrow
          have hin := HOK.out r hmem
          have hsm := HS.out r hmem
          obtain ⟨m, hm⟩ : ∃ m, r.p.length = m := ⟨_, rfl⟩
          have hcap := hin.2.2
          rw [hm] at hrow hsm hcap
          have HM := Lib.hid hm
          have HROW := Lib.hid hrow
          have hrd : HR wr r.A (bs r.p) := ⟨hin.1.later HST.out⟩
          have hA : HR wr A (cellsOf l) := ⟨HRR.out.later HST.out⟩
          have hl0 : 0 < (cellsOf l).length := by rw [cellsOf_rows]; simp [rowsV]; omega
          have oR : OffR (only zk) r.A (bs r.p) := ⟨fun hne ad e h => by
            have h1 := rd_lt hin.1 hne e
            have h2 : ad.block = zk := h
            omega⟩
          have oR2 : OffR (only zx) r.A (bs r.p) := ⟨fun hne ad e h => by
            have h1 := rd_lt hin.1 hne e
            have h2 : ad.block = zx := h
            omega⟩
          have oA1 : OffR (only zk) A (cellsOf l) := ⟨fun hne ad e h => by
            have h1 := rd_lt HRR.out hne e
            have h2 : ad.block = zk := h
            omega⟩
          by_cases cu : u < 16
          · obtain ⟨S, hS⟩ : ∃ S, S = signS seed u r.p := ⟨_, rfl⟩
            obtain ⟨Pa, hP⟩ : ∃ Pa, Pa = pathA (leavesS seed) u := ⟨_, rfl⟩
            have HS9 := Lib.hid hS
            have HP9 := Lib.hid hP
            have HSL : Hid (S.length = 36) := Lib.hid (by rw [hS]; simp [signS, mapH])
            have HPL : Hid (Pa.length ≤ 1000000000) := Lib.hid (by have := pathA_len (leavesS seed) u; rw [leavesS_len] at this; rw [hP]; omega)
            clear hS hP hrow hmem hin hkl hrg
            go_wp2_with (first | go_skip | ((with_reducible apply wpl_index1); (exact rfl); (exact rfl); (exact inferInstance); (exact inferInstance); (exact hl0); (exact hlt)) | ((with_reducible apply wpl_load1); (exact rfl); (exact inferInstance); (exact inferInstance); (exact HROW.out)) | ((with_reducible apply wpl_alloc); intro z wz _ _ _) | ((with_reducible apply wpl_box_agg); (exact rfl); intro z wz _ _ _) | ((with_reducible apply wpl_box_int); (exact rfl); intro z wz _ _ _) | ((with_reducible apply wpl_box_slice); (exact rfl); intro z wz _ _ _) | ((with_reducible apply wpl_box_str); (exact rfl); intro z wz _ _ _) | ((with_reducible apply wpl_box_bool); (exact rfl); intro z wz _ _ _) | ((with_reducible apply wpl_box_ptr); (exact rfl); intro z wz _ _ _) | ((with_reducible apply (wpl_guard (op := .load _ _))); (exact rfl)) | ((with_reducible apply (wpl_guard (op := .fieldAddr _ _ _))); (exact rfl)) | ((with_reducible apply wpl_loadrow); (exact rfl); (exact inferInstance); (exact inferInstance); (first | (with_reducible assumption) | (with_reducible exact H32.size _) | kernel_rfl)) | ((with_reducible apply wpl_loadcellN); (exact rfl); (exact inferInstance); (exact rfl)) | ((with_reducible apply wpl_storerow); (exact rfl); (exact rfl); (exact inferInstance); (exact inferInstance); (first | (with_reducible assumption) | (with_reducible exact H32.size _) | kernel_rfl); (first | (with_reducible assumption) | (with_reducible exact H32.size _) | kernel_rfl); (first | (with_reducible exact u8s_one _) | (with_reducible assumption) | kernel_rfl); intro ws _ _) | ((with_reducible apply wpl_storecell); (exact rfl); (exact rfl); (exact inferInstance); (exact rfl); (first | (with_reducible assumption) | omega | (focus (simp; done)) | (focus (simp; omega; done)) | decide); intro ws _ _))
            refine (ksign_calls (zk := zk) (used := u) HM.out hcap (by omega) hu2 cu).mono ?_
            rw [← HS9.out, ← HP9.out]
            rintro e w7 ⟨z7, A7, c7, rfl, _, _, _, _, _, _⟩
            have n7 : Nw w w7 := inferInstance
            go_wp2_with (first | go_skip | ((with_reducible apply wpl_index1); (exact rfl); (exact rfl); (exact inferInstance); (exact inferInstance); (exact hl0); (exact hlt)) | ((with_reducible apply wpl_load1); (exact rfl); (exact inferInstance); (exact inferInstance); (exact HROW.out)) | ((with_reducible apply (wpl_alloc (dst := some 10))); intro z10 wz10 _ _ _) | ((with_reducible apply (wpl_box_agg (dst := some 10))); (exact rfl); intro z10 wz10 _ _ _) | ((with_reducible apply (wpl_box_int (dst := some 10))); (exact rfl); intro z10 wz10 _ _ _) | ((with_reducible apply (wpl_box_slice (dst := some 10))); (exact rfl); intro z10 wz10 _ _ _) | ((with_reducible apply (wpl_box_str (dst := some 10))); (exact rfl); intro z10 wz10 _ _ _) | ((with_reducible apply (wpl_box_bool (dst := some 10))); (exact rfl); intro z10 wz10 _ _ _) | ((with_reducible apply (wpl_box_ptr (dst := some 10))); (exact rfl); intro z10 wz10 _ _ _) | ((with_reducible apply wpl_alloc); intro z wz _ _ _) | ((with_reducible apply wpl_box_agg); (exact rfl); intro z wz _ _ _) | ((with_reducible apply wpl_box_int); (exact rfl); intro z wz _ _ _) | ((with_reducible apply wpl_box_slice); (exact rfl); intro z wz _ _ _) | ((with_reducible apply wpl_box_str); (exact rfl); intro z wz _ _ _) | ((with_reducible apply wpl_box_bool); (exact rfl); intro z wz _ _ _) | ((with_reducible apply wpl_box_ptr); (exact rfl); intro z wz _ _ _) | ((with_reducible apply (wpl_guard (op := .load _ _))); (exact rfl)) | ((with_reducible apply (wpl_guard (op := .fieldAddr _ _ _))); (exact rfl)) | ((with_reducible apply wpl_loadrow); (exact rfl); (exact inferInstance); (exact inferInstance); (first | (with_reducible assumption) | (with_reducible exact H32.size _) | kernel_rfl)) | ((with_reducible apply wpl_loadcellN); (exact rfl); (exact inferInstance); (exact rfl)) | ((with_reducible apply wpl_storerow); (exact rfl); (exact rfl); (exact inferInstance); (exact inferInstance); (first | (with_reducible assumption) | (with_reducible exact H32.size _) | kernel_rfl); (first | (with_reducible assumption) | (with_reducible exact H32.size _) | kernel_rfl); (first | (with_reducible exact u8s_one _) | (with_reducible assumption) | kernel_rfl); intro ws _ _) | ((with_reducible apply wpl_storecell); (exact rfl); (exact rfl); (exact inferInstance); (exact rfl); (first | (with_reducible assumption) | omega | (focus (simp; done)) | (focus (simp; omega; done)) | decide); intro ws _ _))
            refine (rksign_calls (zk := zx) (used := u) HM.out (by omega) hlc hu2 cu).mono ?_
            rw [← HS9.out, ← HP9.out]
            rintro e w8 ⟨B8, b8, A8, c8, rfl, _, _, _, _, _, _⟩
            have n8 : Nw w w8 := inferInstance
            go_wp2_with (first | go_skip | ((with_reducible apply (wpl_alloc (dst := some 12))); intro z12 wz12 _ _ _) | ((with_reducible apply (wpl_box_agg (dst := some 12))); (exact rfl); intro z12 wz12 _ _ _) | ((with_reducible apply (wpl_box_int (dst := some 12))); (exact rfl); intro z12 wz12 _ _ _) | ((with_reducible apply (wpl_box_slice (dst := some 12))); (exact rfl); intro z12 wz12 _ _ _) | ((with_reducible apply (wpl_box_str (dst := some 12))); (exact rfl); intro z12 wz12 _ _ _) | ((with_reducible apply (wpl_box_bool (dst := some 12))); (exact rfl); intro z12 wz12 _ _ _) | ((with_reducible apply (wpl_box_ptr (dst := some 12))); (exact rfl); intro z12 wz12 _ _ _) | ((with_reducible apply wpl_alloc); intro z wz _ _ _) | ((with_reducible apply wpl_box_agg); (exact rfl); intro z wz _ _ _) | ((with_reducible apply wpl_box_int); (exact rfl); intro z wz _ _ _) | ((with_reducible apply wpl_box_slice); (exact rfl); intro z wz _ _ _) | ((with_reducible apply wpl_box_str); (exact rfl); intro z wz _ _ _) | ((with_reducible apply wpl_box_bool); (exact rfl); intro z wz _ _ _) | ((with_reducible apply wpl_box_ptr); (exact rfl); intro z wz _ _ _) | ((with_reducible apply (wpl_guard (op := .load _ _))); (exact rfl)) | ((with_reducible apply (wpl_guard (op := .fieldAddr _ _ _))); (exact rfl)) | ((with_reducible apply wpl_loadrow); (exact rfl); (exact inferInstance); (exact inferInstance); (first | (with_reducible assumption) | (with_reducible exact H32.size _) | kernel_rfl)) | ((with_reducible apply wpl_loadcellN); (exact rfl); (exact inferInstance); (exact rfl)) | ((with_reducible apply wpl_storerow); (exact rfl); (exact rfl); (exact inferInstance); (exact inferInstance); (first | (with_reducible assumption) | (with_reducible exact H32.size _) | kernel_rfl); (first | (with_reducible assumption) | (with_reducible exact H32.size _) | kernel_rfl); (first | (with_reducible exact u8s_one _) | (with_reducible assumption) | kernel_rfl); intro ws _ _) | ((with_reducible apply wpl_storecell); (exact rfl); (exact rfl); (exact inferInstance); (exact rfl); (first | (with_reducible assumption) | omega | (focus (simp; done)) | (focus (simp; omega; done)) | decide); intro ws _ _))
            refine wp_region_N (nowhere) (by kernel_rfl) (fun wd _ _ => ?_)
            refine' takeH (i := 0) (v := _) rfl (by kernel_rfl) (by kernel_rfl) (by kernel_rfl) (fun _ _ _ h => h) (yields_of (by rfl) (fun w' _ => ?_)) inferInstance ?_
            rotate_left
            · (first | ((with_reducible apply (ev_loadRPub (t := 23))); (exact rfl); (exact inferInstance); (exact inferInstance)) | ((with_reducible apply (ev_loadRSeed (t := 23))); (exact rfl); (exact inferInstance); (exact inferInstance)) | ((with_reducible apply (ev_loadRN (t := 3))); (exact rfl); (exact inferInstance); (exact inferInstance)) | ((with_reducible apply (ev_loadRL (t := 31))); (exact rfl); (exact inferInstance); (exact inferInstance)) | ((with_reducible apply (ev_loadKSeed (t := 23))); (exact rfl); (exact inferInstance); (exact inferInstance)) | ((with_reducible apply (ev_loadKUsed (t := 3))); (exact rfl); (exact inferInstance); (exact inferInstance)) | ((with_reducible apply ev_loadrow); (exact rfl); (exact inferInstance); (exact inferInstance); (first | (with_reducible assumption) | (with_reducible exact H32.size _) | kernel_rfl)) | ((with_reducible apply (ev_loadhash (t := 23))); (exact rfl); (exact inferInstance); (exact inferInstance); (first | (with_reducible assumption) | omega)) | ((with_reducible apply ev_loadcellN); (exact rfl); (exact inferInstance); (exact inferInstance); (exact rfl)) | ((with_reducible apply (ev_loadint (t := 3))); (exact rfl); (exact inferInstance); (exact inferInstance); (first | (with_reducible assumption) | omega)) | ((with_reducible apply (ev_loadbyte (t := 5))); (exact rfl); (exact inferInstance); (exact inferInstance); (first | (with_reducible assumption) | omega)) | (go_simp; try with_reducible rfl))
            try simp only [Act.put, List.setIfInBounds_toArray]; try simp only [List.set_cons_succ, List.set_cons_zero]
            refine' takeH (i := 1) (v := _) rfl (by kernel_rfl) (by kernel_rfl) (by kernel_rfl) (fun _ _ _ h => h) (yields_of (by rfl) (fun w' _ => ?_)) inferInstance ?_
            rotate_left
            · (first | ((with_reducible apply (ev_loadRPub (t := 23))); (exact rfl); (exact inferInstance); (exact inferInstance)) | ((with_reducible apply (ev_loadRSeed (t := 23))); (exact rfl); (exact inferInstance); (exact inferInstance)) | ((with_reducible apply (ev_loadRN (t := 3))); (exact rfl); (exact inferInstance); (exact inferInstance)) | ((with_reducible apply (ev_loadRL (t := 31))); (exact rfl); (exact inferInstance); (exact inferInstance)) | ((with_reducible apply (ev_loadKSeed (t := 23))); (exact rfl); (exact inferInstance); (exact inferInstance)) | ((with_reducible apply (ev_loadKUsed (t := 3))); (exact rfl); (exact inferInstance); (exact inferInstance)) | ((with_reducible apply ev_loadrow); (exact rfl); (exact inferInstance); (exact inferInstance); (first | (with_reducible assumption) | (with_reducible exact H32.size _) | kernel_rfl)) | ((with_reducible apply (ev_loadhash (t := 23))); (exact rfl); (exact inferInstance); (exact inferInstance); (first | (with_reducible assumption) | omega)) | ((with_reducible apply ev_loadcellN); (exact rfl); (exact inferInstance); (exact inferInstance); (exact rfl)) | ((with_reducible apply (ev_loadint (t := 3))); (exact rfl); (exact inferInstance); (exact inferInstance); (first | (with_reducible assumption) | omega)) | ((with_reducible apply (ev_loadbyte (t := 5))); (exact rfl); (exact inferInstance); (exact inferInstance); (first | (with_reducible assumption) | omega)) | (go_simp; try with_reducible rfl))
            try simp only [Act.put, List.setIfInBounds_toArray]; try simp only [List.set_cons_succ, List.set_cons_zero]
            refine goH (i := 2) (by kernel_rfl) rfl (fun K_ hK_ => ?_)
            go_simp
            refine (rsame_calls HSL.out rfl HSL.out rfl (by decide) HPL.out).mono ?_
            rw [sameS_self]
            rintro e w9 ⟨rfl, _⟩
            refine hK_.out _ _ inferInstance (fun _ => ?_)
            clear hK_ K_
            try simp only [Act.put, List.setIfInBounds_toArray]; try simp only [List.set_cons_succ, List.set_cons_zero]
            refine' takeH (i := 3) (v := _) rfl (by kernel_rfl) (by kernel_rfl) (by kernel_rfl) (fun _ _ _ h => h) (yields_of (by rfl) (fun w' _ => ?_)) inferInstance ?_
            rotate_left
            · (go_simp; try with_reducible rfl)
            try simp only [Act.put, List.setIfInBounds_toArray]; try simp only [List.set_cons_succ, List.set_cons_zero]
            refine' takeH (i := 4) (v := _) rfl (by kernel_rfl) (by kernel_rfl) (by kernel_rfl) (fun _ _ _ h => h) (yields_of (by rfl) (fun w' _ => ?_)) inferInstance ?_
            rotate_left
            · (go_simp; try with_reducible rfl)
            try simp only [Act.put, List.setIfInBounds_toArray]; try simp only [List.set_cons_succ, List.set_cons_zero]
            refine' takeH (i := 5) (v := _) rfl (by kernel_rfl) (by kernel_rfl) (by kernel_rfl) (fun _ _ _ h => h) (yields_of (by rfl) (fun w' _ => ?_)) inferInstance ?_
            rotate_left
            · (go_simp; try with_reducible rfl)
            try simp only [Act.put, List.setIfInBounds_toArray]; try simp only [List.set_cons_succ, List.set_cons_zero]
            refine' takeH (i := 6) (v := _) rfl (by kernel_rfl) (by kernel_rfl) (by kernel_rfl) (fun _ _ _ h => h) (yields_of (by rfl) (fun w' _ => ?_)) inferInstance ?_
            rotate_left
            · (go_simp; try with_reducible rfl)
            try simp only [Act.put, List.setIfInBounds_toArray]; try simp only [List.set_cons_succ, List.set_cons_zero]
            refine' takeH (i := 7) (v := _) rfl (by kernel_rfl) (by kernel_rfl) (by kernel_rfl) (fun _ _ _ h => h) (yields_of (by rfl) (fun w' _ => ?_)) inferInstance ?_
            rotate_left
            · (go_simp; try with_reducible rfl)
            try simp only [Act.put, List.setIfInBounds_toArray]; try simp only [List.set_cons_succ, List.set_cons_zero]
            refine' takeH (i := 8) (v := _) rfl (by kernel_rfl) (by kernel_rfl) (by kernel_rfl) (fun _ _ _ h => h) (yields_of (by rfl) (fun w' _ => ?_)) inferInstance ?_
            rotate_left
            · (go_simp; try with_reducible rfl)
            try simp only [Act.put, List.setIfInBounds_toArray]; try simp only [List.set_cons_succ, List.set_cons_zero]
            refine' takeH (i := 9) (v := _) rfl (by kernel_rfl) (by kernel_rfl) (by kernel_rfl) (fun _ _ _ h => h) (yields_of (by rfl) (fun w' _ => ?_)) inferInstance ?_
            rotate_left
            · (go_simp; try with_reducible rfl)
            try simp only [Act.put, List.setIfInBounds_toArray]; try simp only [List.set_cons_succ, List.set_cons_zero]
            refine' takeH (i := 10) (v := _) rfl (by kernel_rfl) (by kernel_rfl) (by kernel_rfl) (fun _ _ _ h => h) (yields_of (by rfl) (fun w' _ => ?_)) inferInstance ?_
            rotate_left
            · (go_simp; try with_reducible rfl)
            try simp only [Act.put, List.setIfInBounds_toArray]; try simp only [List.set_cons_succ, List.set_cons_zero]
            refine' takeH (i := 12) (v := _) rfl (by kernel_rfl) (by kernel_rfl) (by kernel_rfl) (fun _ _ _ h => h) (yields_of (by rfl) (fun w' _ => ?_)) inferInstance ?_
            rotate_left
            · (go_simp; try with_reducible rfl)
            try simp only [Act.put, List.setIfInBounds_toArray]; try simp only [List.set_cons_succ, List.set_cons_zero]
            refine' takeH (i := 13) (v := _) rfl (by kernel_rfl) (by kernel_rfl) (by kernel_rfl) (fun _ _ _ h => h) (yields_of (by rfl) (fun w' _ => ?_)) inferInstance ?_
            rotate_left
            · (go_simp; try with_reducible rfl)
            try simp only [Act.put, List.setIfInBounds_toArray]; try simp only [List.set_cons_succ, List.set_cons_zero]
            refine' takeH (i := 14) (v := _) rfl (by kernel_rfl) (by kernel_rfl) (by kernel_rfl) (fun _ _ _ h => h) (yields_of (by rfl) (fun w' _ => ?_)) inferInstance ?_
            rotate_left
            · (go_simp; try with_reducible rfl)
            try simp only [Act.put, List.setIfInBounds_toArray]; try simp only [List.set_cons_succ, List.set_cons_zero]
            refine' takeH (i := 15) (v := _) rfl (by kernel_rfl) (by kernel_rfl) (by kernel_rfl) (fun _ _ _ h => h) (yields_of (by rfl) (fun w' _ => ?_)) inferInstance ?_
            rotate_left
            · (first | ((with_reducible apply (ev_loadRPub (t := 23))); (exact rfl); (exact inferInstance); (exact inferInstance)) | ((with_reducible apply (ev_loadRSeed (t := 23))); (exact rfl); (exact inferInstance); (exact inferInstance)) | ((with_reducible apply (ev_loadRN (t := 3))); (exact rfl); (exact inferInstance); (exact inferInstance)) | ((with_reducible apply (ev_loadRL (t := 31))); (exact rfl); (exact inferInstance); (exact inferInstance)) | ((with_reducible apply (ev_loadKSeed (t := 23))); (exact rfl); (exact inferInstance); (exact inferInstance)) | ((with_reducible apply (ev_loadKUsed (t := 3))); (exact rfl); (exact inferInstance); (exact inferInstance)) | ((with_reducible apply ev_loadrow); (exact rfl); (exact inferInstance); (exact inferInstance); (first | (with_reducible assumption) | (with_reducible exact H32.size _) | kernel_rfl)) | ((with_reducible apply (ev_loadhash (t := 23))); (exact rfl); (exact inferInstance); (exact inferInstance); (first | (with_reducible assumption) | omega)) | ((with_reducible apply ev_loadcellN); (exact rfl); (exact inferInstance); (exact inferInstance); (exact rfl)) | ((with_reducible apply (ev_loadint (t := 3))); (exact rfl); (exact inferInstance); (exact inferInstance); (first | (with_reducible assumption) | omega)) | ((with_reducible apply (ev_loadbyte (t := 5))); (exact rfl); (exact inferInstance); (exact inferInstance); (first | (with_reducible assumption) | omega)) | (go_simp; try with_reducible rfl))
            try simp only [Act.put, List.setIfInBounds_toArray]; try simp only [List.set_cons_succ, List.set_cons_zero]
            refine goH (i := 11) (by kernel_rfl) rfl (fun K_ hK_ => ?_)
            go_simp
            refine (used_calls (zk := zk)).mono ?_
            rintro e w10 ⟨rfl, _⟩
            refine hK_.out _ _ inferInstance (fun _ => ?_)
            clear hK_ K_
            try simp only [Act.put, List.setIfInBounds_toArray]; try simp only [List.set_cons_succ, List.set_cons_zero]
            refine' takeH (i := 16) (v := _) rfl (by kernel_rfl) (by kernel_rfl) (by kernel_rfl) (fun _ _ _ h => h) (yields_of (by rfl) (fun w' _ => ?_)) inferInstance ?_
            rotate_left
            · (go_simp; try with_reducible rfl)
            try simp only [Act.put, List.setIfInBounds_toArray]; try simp only [List.set_cons_succ, List.set_cons_zero]
            refine' takeH (i := 17) (v := _) rfl (by kernel_rfl) (by kernel_rfl) (by kernel_rfl) (fun _ _ _ h => h) (yields_of (by rfl) (fun w' _ => ?_)) inferInstance ?_
            rotate_left
            · (go_simp; try with_reducible rfl)
            try simp only [Act.put, List.setIfInBounds_toArray]; try simp only [List.set_cons_succ, List.set_cons_zero]
            refine wpAnyH_done (by kernel_rfl) ?_ _
            have k10 : KeyAt w10 zk seed (u + 1) := inferInstance
            have x10 : HB w10 zx 33 (refL seed L 16 lc N (u + 1)).toArray := inferInstance
            have l10 : HO w10 23 32 L 16 lc (cellsOf (leavesS seed)) := inferInstance
            have st10 : Step nowhere w w10 := stepN
            go_wp2_with fail
            exact ⟨⟨k + 1, u + 1, by omega, by go_num, by omega, by omega, st10, k10, x10, l10⟩, by simp [intOf]; omega⟩
          · have cu2 : 16 ≤ u := by omega
            clear hrow hmem hin hkl hrg
            go_wp2_with (first | go_skip | ((with_reducible apply wpl_index1); (exact rfl); (exact rfl); (exact inferInstance); (exact inferInstance); (exact hl0); (exact hlt)) | ((with_reducible apply wpl_load1); (exact rfl); (exact inferInstance); (exact inferInstance); (exact HROW.out)) | ((with_reducible apply wpl_alloc); intro z wz _ _ _) | ((with_reducible apply wpl_box_agg); (exact rfl); intro z wz _ _ _) | ((with_reducible apply wpl_box_int); (exact rfl); intro z wz _ _ _) | ((with_reducible apply wpl_box_slice); (exact rfl); intro z wz _ _ _) | ((with_reducible apply wpl_box_str); (exact rfl); intro z wz _ _ _) | ((with_reducible apply wpl_box_bool); (exact rfl); intro z wz _ _ _) | ((with_reducible apply wpl_box_ptr); (exact rfl); intro z wz _ _ _) | ((with_reducible apply (wpl_guard (op := .load _ _))); (exact rfl)) | ((with_reducible apply (wpl_guard (op := .fieldAddr _ _ _))); (exact rfl)) | ((with_reducible apply wpl_loadrow); (exact rfl); (exact inferInstance); (exact inferInstance); (first | (with_reducible assumption) | (with_reducible exact H32.size _) | kernel_rfl)) | ((with_reducible apply wpl_loadcellN); (exact rfl); (exact inferInstance); (exact rfl)) | ((with_reducible apply wpl_storerow); (exact rfl); (exact rfl); (exact inferInstance); (exact inferInstance); (first | (with_reducible assumption) | (with_reducible exact H32.size _) | kernel_rfl); (first | (with_reducible assumption) | (with_reducible exact H32.size _) | kernel_rfl); (first | (with_reducible exact u8s_one _) | (with_reducible assumption) | kernel_rfl); intro ws _ _) | ((with_reducible apply wpl_storecell); (exact rfl); (exact rfl); (exact inferInstance); (exact rfl); (first | (with_reducible assumption) | omega | (focus (simp; done)) | (focus (simp; omega; done)) | decide); intro ws _ _))
            refine (signUsed_calls (zk := zk) (used := u) r.A m r.c _ cu2).mono ?_
            rintro e w7 ⟨rfl, _⟩
            have n7 : Nw w w7 := inferInstance
            go_wp2_with (first | go_skip | ((with_reducible apply wpl_index1); (exact rfl); (exact rfl); (exact inferInstance); (exact inferInstance); (exact hl0); (exact hlt)) | ((with_reducible apply wpl_load1); (exact rfl); (exact inferInstance); (exact inferInstance); (exact HROW.out)) | ((with_reducible apply (wpl_alloc (dst := some 10))); intro z10 wz10 _ _ _) | ((with_reducible apply (wpl_box_agg (dst := some 10))); (exact rfl); intro z10 wz10 _ _ _) | ((with_reducible apply (wpl_box_int (dst := some 10))); (exact rfl); intro z10 wz10 _ _ _) | ((with_reducible apply (wpl_box_slice (dst := some 10))); (exact rfl); intro z10 wz10 _ _ _) | ((with_reducible apply (wpl_box_str (dst := some 10))); (exact rfl); intro z10 wz10 _ _ _) | ((with_reducible apply (wpl_box_bool (dst := some 10))); (exact rfl); intro z10 wz10 _ _ _) | ((with_reducible apply (wpl_box_ptr (dst := some 10))); (exact rfl); intro z10 wz10 _ _ _) | ((with_reducible apply wpl_alloc); intro z wz _ _ _) | ((with_reducible apply wpl_box_agg); (exact rfl); intro z wz _ _ _) | ((with_reducible apply wpl_box_int); (exact rfl); intro z wz _ _ _) | ((with_reducible apply wpl_box_slice); (exact rfl); intro z wz _ _ _) | ((with_reducible apply wpl_box_str); (exact rfl); intro z wz _ _ _) | ((with_reducible apply wpl_box_bool); (exact rfl); intro z wz _ _ _) | ((with_reducible apply wpl_box_ptr); (exact rfl); intro z wz _ _ _) | ((with_reducible apply (wpl_guard (op := .load _ _))); (exact rfl)) | ((with_reducible apply (wpl_guard (op := .fieldAddr _ _ _))); (exact rfl)) | ((with_reducible apply wpl_loadrow); (exact rfl); (exact inferInstance); (exact inferInstance); (first | (with_reducible assumption) | (with_reducible exact H32.size _) | kernel_rfl)) | ((with_reducible apply wpl_loadcellN); (exact rfl); (exact inferInstance); (exact rfl)) | ((with_reducible apply wpl_storerow); (exact rfl); (exact rfl); (exact inferInstance); (exact inferInstance); (first | (with_reducible assumption) | (with_reducible exact H32.size _) | kernel_rfl); (first | (with_reducible assumption) | (with_reducible exact H32.size _) | kernel_rfl); (first | (with_reducible exact u8s_one _) | (with_reducible assumption) | kernel_rfl); intro ws _ _) | ((with_reducible apply wpl_storecell); (exact rfl); (exact rfl); (exact inferInstance); (exact rfl); (first | (with_reducible assumption) | omega | (focus (simp; done)) | (focus (simp; omega; done)) | decide); intro ws _ _))
            refine (rsignUsed_calls (zk := zx) (used := u) r.A m r.c _ cu2).mono ?_
            rintro e w8 ⟨rfl, _⟩
            have n8 : Nw w w8 := inferInstance
            go_wp2_with (first | go_skip | ((with_reducible apply (wpl_alloc (dst := some 12))); intro z12 wz12 _ _ _) | ((with_reducible apply (wpl_box_agg (dst := some 12))); (exact rfl); intro z12 wz12 _ _ _) | ((with_reducible apply (wpl_box_int (dst := some 12))); (exact rfl); intro z12 wz12 _ _ _) | ((with_reducible apply (wpl_box_slice (dst := some 12))); (exact rfl); intro z12 wz12 _ _ _) | ((with_reducible apply (wpl_box_str (dst := some 12))); (exact rfl); intro z12 wz12 _ _ _) | ((with_reducible apply (wpl_box_bool (dst := some 12))); (exact rfl); intro z12 wz12 _ _ _) | ((with_reducible apply (wpl_box_ptr (dst := some 12))); (exact rfl); intro z12 wz12 _ _ _) | ((with_reducible apply wpl_alloc); intro z wz _ _ _) | ((with_reducible apply wpl_box_agg); (exact rfl); intro z wz _ _ _) | ((with_reducible apply wpl_box_int); (exact rfl); intro z wz _ _ _) | ((with_reducible apply wpl_box_slice); (exact rfl); intro z wz _ _ _) | ((with_reducible apply wpl_box_str); (exact rfl); intro z wz _ _ _) | ((with_reducible apply wpl_box_bool); (exact rfl); intro z wz _ _ _) | ((with_reducible apply wpl_box_ptr); (exact rfl); intro z wz _ _ _) | ((with_reducible apply (wpl_guard (op := .load _ _))); (exact rfl)) | ((with_reducible apply (wpl_guard (op := .fieldAddr _ _ _))); (exact rfl)) | ((with_reducible apply wpl_loadrow); (exact rfl); (exact inferInstance); (exact inferInstance); (first | (with_reducible assumption) | (with_reducible exact H32.size _) | kernel_rfl)) | ((with_reducible apply wpl_loadcellN); (exact rfl); (exact inferInstance); (exact rfl)) | ((with_reducible apply wpl_storerow); (exact rfl); (exact rfl); (exact inferInstance); (exact inferInstance); (first | (with_reducible assumption) | (with_reducible exact H32.size _) | kernel_rfl); (first | (with_reducible assumption) | (with_reducible exact H32.size _) | kernel_rfl); (first | (with_reducible exact u8s_one _) | (with_reducible assumption) | kernel_rfl); intro ws _ _) | ((with_reducible apply wpl_storecell); (exact rfl); (exact rfl); (exact inferInstance); (exact rfl); (first | (with_reducible assumption) | omega | (focus (simp; done)) | (focus (simp; omega; done)) | decide); intro ws _ _))
            refine wp_region_N (nowhere) (by kernel_rfl) (fun wd _ _ => ?_)
            refine' takeH (i := 0) (v := _) rfl (by kernel_rfl) (by kernel_rfl) (by kernel_rfl) (fun _ _ _ h => h) (yields_of (by rfl) (fun w' _ => ?_)) inferInstance ?_
            rotate_left
            · (first | ((with_reducible apply (ev_loadRPub (t := 23))); (exact rfl); (exact inferInstance); (exact inferInstance)) | ((with_reducible apply (ev_loadRSeed (t := 23))); (exact rfl); (exact inferInstance); (exact inferInstance)) | ((with_reducible apply (ev_loadRN (t := 3))); (exact rfl); (exact inferInstance); (exact inferInstance)) | ((with_reducible apply (ev_loadRL (t := 31))); (exact rfl); (exact inferInstance); (exact inferInstance)) | ((with_reducible apply (ev_loadKSeed (t := 23))); (exact rfl); (exact inferInstance); (exact inferInstance)) | ((with_reducible apply (ev_loadKUsed (t := 3))); (exact rfl); (exact inferInstance); (exact inferInstance)) | ((with_reducible apply ev_loadrow); (exact rfl); (exact inferInstance); (exact inferInstance); (first | (with_reducible assumption) | (with_reducible exact H32.size _) | kernel_rfl)) | ((with_reducible apply (ev_loadhash (t := 23))); (exact rfl); (exact inferInstance); (exact inferInstance); (first | (with_reducible assumption) | omega)) | ((with_reducible apply ev_loadcellN); (exact rfl); (exact inferInstance); (exact inferInstance); (exact rfl)) | ((with_reducible apply (ev_loadint (t := 3))); (exact rfl); (exact inferInstance); (exact inferInstance); (first | (with_reducible assumption) | omega)) | ((with_reducible apply (ev_loadbyte (t := 5))); (exact rfl); (exact inferInstance); (exact inferInstance); (first | (with_reducible assumption) | omega)) | (go_simp; try with_reducible rfl))
            try simp only [Act.put, List.setIfInBounds_toArray]; try simp only [List.set_cons_succ, List.set_cons_zero]
            refine' takeH (i := 1) (v := _) rfl (by kernel_rfl) (by kernel_rfl) (by kernel_rfl) (fun _ _ _ h => h) (yields_of (by rfl) (fun w' _ => ?_)) inferInstance ?_
            rotate_left
            · (first | ((with_reducible apply (ev_loadRPub (t := 23))); (exact rfl); (exact inferInstance); (exact inferInstance)) | ((with_reducible apply (ev_loadRSeed (t := 23))); (exact rfl); (exact inferInstance); (exact inferInstance)) | ((with_reducible apply (ev_loadRN (t := 3))); (exact rfl); (exact inferInstance); (exact inferInstance)) | ((with_reducible apply (ev_loadRL (t := 31))); (exact rfl); (exact inferInstance); (exact inferInstance)) | ((with_reducible apply (ev_loadKSeed (t := 23))); (exact rfl); (exact inferInstance); (exact inferInstance)) | ((with_reducible apply (ev_loadKUsed (t := 3))); (exact rfl); (exact inferInstance); (exact inferInstance)) | ((with_reducible apply ev_loadrow); (exact rfl); (exact inferInstance); (exact inferInstance); (first | (with_reducible assumption) | (with_reducible exact H32.size _) | kernel_rfl)) | ((with_reducible apply (ev_loadhash (t := 23))); (exact rfl); (exact inferInstance); (exact inferInstance); (first | (with_reducible assumption) | omega)) | ((with_reducible apply ev_loadcellN); (exact rfl); (exact inferInstance); (exact inferInstance); (exact rfl)) | ((with_reducible apply (ev_loadint (t := 3))); (exact rfl); (exact inferInstance); (exact inferInstance); (first | (with_reducible assumption) | omega)) | ((with_reducible apply (ev_loadbyte (t := 5))); (exact rfl); (exact inferInstance); (exact inferInstance); (first | (with_reducible assumption) | omega)) | (go_simp; try with_reducible rfl))
            try simp only [Act.put, List.setIfInBounds_toArray]; try simp only [List.set_cons_succ, List.set_cons_zero]
            refine goH (i := 2) (by kernel_rfl) rfl (fun K_ hK_ => ?_)
            go_simp
            refine (rsame_calls (l1 := []) (l2 := []) (m1 := []) (m2 := []) rfl rfl rfl rfl (by decide) (by decide)).mono ?_
            rw [sameS_self]
            rintro e w9 ⟨rfl, _⟩
            refine hK_.out _ _ inferInstance (fun _ => ?_)
            clear hK_ K_
            try simp only [Act.put, List.setIfInBounds_toArray]; try simp only [List.set_cons_succ, List.set_cons_zero]
            refine' takeH (i := 3) (v := _) rfl (by kernel_rfl) (by kernel_rfl) (by kernel_rfl) (fun _ _ _ h => h) (yields_of (by rfl) (fun w' _ => ?_)) inferInstance ?_
            rotate_left
            · (go_simp; try with_reducible rfl)
            try simp only [Act.put, List.setIfInBounds_toArray]; try simp only [List.set_cons_succ, List.set_cons_zero]
            refine' takeH (i := 4) (v := _) rfl (by kernel_rfl) (by kernel_rfl) (by kernel_rfl) (fun _ _ _ h => h) (yields_of (by rfl) (fun w' _ => ?_)) inferInstance ?_
            rotate_left
            · (go_simp; try with_reducible rfl)
            try simp only [Act.put, List.setIfInBounds_toArray]; try simp only [List.set_cons_succ, List.set_cons_zero]
            refine' takeH (i := 5) (v := _) rfl (by kernel_rfl) (by kernel_rfl) (by kernel_rfl) (fun _ _ _ h => h) (yields_of (by rfl) (fun w' _ => ?_)) inferInstance ?_
            rotate_left
            · (go_simp; try with_reducible rfl)
            try simp only [Act.put, List.setIfInBounds_toArray]; try simp only [List.set_cons_succ, List.set_cons_zero]
            refine' takeH (i := 6) (v := _) rfl (by kernel_rfl) (by kernel_rfl) (by kernel_rfl) (fun _ _ _ h => h) (yields_of (by rfl) (fun w' _ => ?_)) inferInstance ?_
            rotate_left
            · (go_simp; try with_reducible rfl)
            try simp only [Act.put, List.setIfInBounds_toArray]; try simp only [List.set_cons_succ, List.set_cons_zero]
            refine' takeH (i := 7) (v := _) rfl (by kernel_rfl) (by kernel_rfl) (by kernel_rfl) (fun _ _ _ h => h) (yields_of (by rfl) (fun w' _ => ?_)) inferInstance ?_
            rotate_left
            · (go_simp; try with_reducible rfl)
            try simp only [Act.put, List.setIfInBounds_toArray]; try simp only [List.set_cons_succ, List.set_cons_zero]
            refine' takeH (i := 8) (v := _) rfl (by kernel_rfl) (by kernel_rfl) (by kernel_rfl) (fun _ _ _ h => h) (yields_of (by rfl) (fun w' _ => ?_)) inferInstance ?_
            rotate_left
            · (go_simp; try with_reducible rfl)
            try simp only [Act.put, List.setIfInBounds_toArray]; try simp only [List.set_cons_succ, List.set_cons_zero]
            refine' takeH (i := 9) (v := _) rfl (by kernel_rfl) (by kernel_rfl) (by kernel_rfl) (fun _ _ _ h => h) (yields_of (by rfl) (fun w' _ => ?_)) inferInstance ?_
            rotate_left
            · (go_simp; try with_reducible rfl)
            try simp only [Act.put, List.setIfInBounds_toArray]; try simp only [List.set_cons_succ, List.set_cons_zero]
            refine' takeH (i := 10) (v := _) rfl (by kernel_rfl) (by kernel_rfl) (by kernel_rfl) (fun _ _ _ h => h) (yields_of (by rfl) (fun w' _ => ?_)) inferInstance ?_
            rotate_left
            · (go_simp; try with_reducible rfl)
            try simp only [Act.put, List.setIfInBounds_toArray]; try simp only [List.set_cons_succ, List.set_cons_zero]
            refine' takeH (i := 12) (v := _) rfl (by kernel_rfl) (by kernel_rfl) (by kernel_rfl) (fun _ _ _ h => h) (yields_of (by rfl) (fun w' _ => ?_)) inferInstance ?_
            rotate_left
            · (go_simp; try with_reducible rfl)
            try simp only [Act.put, List.setIfInBounds_toArray]; try simp only [List.set_cons_succ, List.set_cons_zero]
            refine' takeH (i := 13) (v := _) rfl (by kernel_rfl) (by kernel_rfl) (by kernel_rfl) (fun _ _ _ h => h) (yields_of (by rfl) (fun w' _ => ?_)) inferInstance ?_
            rotate_left
            · (go_simp; try with_reducible rfl)
            try simp only [Act.put, List.setIfInBounds_toArray]; try simp only [List.set_cons_succ, List.set_cons_zero]
            refine' takeH (i := 14) (v := _) rfl (by kernel_rfl) (by kernel_rfl) (by kernel_rfl) (fun _ _ _ h => h) (yields_of (by rfl) (fun w' _ => ?_)) inferInstance ?_
            rotate_left
            · (go_simp; try with_reducible rfl)
            try simp only [Act.put, List.setIfInBounds_toArray]; try simp only [List.set_cons_succ, List.set_cons_zero]
            refine' takeH (i := 15) (v := _) rfl (by kernel_rfl) (by kernel_rfl) (by kernel_rfl) (fun _ _ _ h => h) (yields_of (by rfl) (fun w' _ => ?_)) inferInstance ?_
            rotate_left
            · (first | ((with_reducible apply (ev_loadRPub (t := 23))); (exact rfl); (exact inferInstance); (exact inferInstance)) | ((with_reducible apply (ev_loadRSeed (t := 23))); (exact rfl); (exact inferInstance); (exact inferInstance)) | ((with_reducible apply (ev_loadRN (t := 3))); (exact rfl); (exact inferInstance); (exact inferInstance)) | ((with_reducible apply (ev_loadRL (t := 31))); (exact rfl); (exact inferInstance); (exact inferInstance)) | ((with_reducible apply (ev_loadKSeed (t := 23))); (exact rfl); (exact inferInstance); (exact inferInstance)) | ((with_reducible apply (ev_loadKUsed (t := 3))); (exact rfl); (exact inferInstance); (exact inferInstance)) | ((with_reducible apply ev_loadrow); (exact rfl); (exact inferInstance); (exact inferInstance); (first | (with_reducible assumption) | (with_reducible exact H32.size _) | kernel_rfl)) | ((with_reducible apply (ev_loadhash (t := 23))); (exact rfl); (exact inferInstance); (exact inferInstance); (first | (with_reducible assumption) | omega)) | ((with_reducible apply ev_loadcellN); (exact rfl); (exact inferInstance); (exact inferInstance); (exact rfl)) | ((with_reducible apply (ev_loadint (t := 3))); (exact rfl); (exact inferInstance); (exact inferInstance); (first | (with_reducible assumption) | omega)) | ((with_reducible apply (ev_loadbyte (t := 5))); (exact rfl); (exact inferInstance); (exact inferInstance); (first | (with_reducible assumption) | omega)) | (go_simp; try with_reducible rfl))
            try simp only [Act.put, List.setIfInBounds_toArray]; try simp only [List.set_cons_succ, List.set_cons_zero]
            refine goH (i := 11) (by kernel_rfl) rfl (fun K_ hK_ => ?_)
            go_simp
            refine (used_calls (zk := zk)).mono ?_
            rintro e w10 ⟨rfl, _⟩
            refine hK_.out _ _ inferInstance (fun _ => ?_)
            clear hK_ K_
            try simp only [Act.put, List.setIfInBounds_toArray]; try simp only [List.set_cons_succ, List.set_cons_zero]
            refine' takeH (i := 16) (v := _) rfl (by kernel_rfl) (by kernel_rfl) (by kernel_rfl) (fun _ _ _ h => h) (yields_of (by rfl) (fun w' _ => ?_)) inferInstance ?_
            rotate_left
            · (go_simp; try with_reducible rfl)
            try simp only [Act.put, List.setIfInBounds_toArray]; try simp only [List.set_cons_succ, List.set_cons_zero]
            refine' takeH (i := 17) (v := _) rfl (by kernel_rfl) (by kernel_rfl) (by kernel_rfl) (fun _ _ _ h => h) (yields_of (by rfl) (fun w' _ => ?_)) inferInstance ?_
            rotate_left
            · (go_simp; try with_reducible rfl)
            try simp only [Act.put, List.setIfInBounds_toArray]; try simp only [List.set_cons_succ, List.set_cons_zero]
            refine wpAnyH_done (by kernel_rfl) ?_ _
            have k10 : KeyAt w10 zk seed u := inferInstance
            have x10 : HB w10 zx 33 (refL seed L 16 lc N u).toArray := inferInstance
            have l10 : HO w10 23 32 L 16 lc (cellsOf (leavesS seed)) := inferInstance
            have st10 : Step nowhere w w10 := stepN
            go_wp2_with fail
            exact ⟨⟨k + 1, u, by omega, by go_num, by omega, by omega, st10, k10, x10, l10⟩, by simp [intOf]; omega⟩
        · obtain rfl : k = n := by omega
          have hltI : (k : Int) ≤ k := by omega
          go_wp2_with (first | go_skip | ((with_reducible apply wpl_alloc); intro z wz _ _ _) | ((with_reducible apply wpl_box_agg); (exact rfl); intro z wz _ _ _) | ((with_reducible apply wpl_box_int); (exact rfl); intro z wz _ _ _) | ((with_reducible apply wpl_box_slice); (exact rfl); intro z wz _ _ _) | ((with_reducible apply wpl_box_str); (exact rfl); intro z wz _ _ _) | ((with_reducible apply wpl_box_bool); (exact rfl); intro z wz _ _ _) | ((with_reducible apply wpl_box_ptr); (exact rfl); intro z wz _ _ _) | ((with_reducible apply (wpl_guard (op := .load _ _))); (exact rfl)) | ((with_reducible apply (wpl_guard (op := .fieldAddr _ _ _))); (exact rfl)) | ((with_reducible apply wpl_loadrow); (exact rfl); (exact inferInstance); (exact inferInstance); (first | (with_reducible assumption) | (with_reducible exact H32.size _) | kernel_rfl)) | ((with_reducible apply wpl_loadcellN); (exact rfl); (exact inferInstance); (exact rfl)) | ((with_reducible apply wpl_storerow); (exact rfl); (exact rfl); (exact inferInstance); (exact inferInstance); (first | (with_reducible assumption) | (with_reducible exact H32.size _) | kernel_rfl); (first | (with_reducible assumption) | (with_reducible exact H32.size _) | kernel_rfl); (first | (with_reducible exact u8s_one _) | (with_reducible assumption) | kernel_rfl); intro ws _ _) | ((with_reducible apply wpl_storecell); (exact rfl); (exact rfl); (exact inferInstance); (exact rfl); (first | (with_reducible assumption) | omega | (focus (simp; done)) | (focus (simp; omega; done)) | decide); intro ws _ _))
          refine (kyKnown_calls _).mono ?_
          rintro e w13 ⟨rfl, _⟩
          go_wp2_with (first | go_skip | ((with_reducible apply wpl_alloc); intro z wz _ _ _) | ((with_reducible apply wpl_box_agg); (exact rfl); intro z wz _ _ _) | ((with_reducible apply wpl_box_int); (exact rfl); intro z wz _ _ _) | ((with_reducible apply wpl_box_slice); (exact rfl); intro z wz _ _ _) | ((with_reducible apply wpl_box_str); (exact rfl); intro z wz _ _ _) | ((with_reducible apply wpl_box_bool); (exact rfl); intro z wz _ _ _) | ((with_reducible apply wpl_box_ptr); (exact rfl); intro z wz _ _ _) | ((with_reducible apply (wpl_guard (op := .load _ _))); (exact rfl)) | ((with_reducible apply (wpl_guard (op := .fieldAddr _ _ _))); (exact rfl)) | ((with_reducible apply wpl_loadrow); (exact rfl); (exact inferInstance); (exact inferInstance); (first | (with_reducible assumption) | (with_reducible exact H32.size _) | kernel_rfl)) | ((with_reducible apply wpl_loadcellN); (exact rfl); (exact inferInstance); (exact rfl)) | ((with_reducible apply wpl_storerow); (exact rfl); (exact rfl); (exact inferInstance); (exact inferInstance); (first | (with_reducible assumption) | (with_reducible exact H32.size _) | kernel_rfl); (first | (with_reducible assumption) | (with_reducible exact H32.size _) | kernel_rfl); (first | (with_reducible exact u8s_one _) | (with_reducible assumption) | kernel_rfl); intro ws _ _) | ((with_reducible apply wpl_storecell); (exact rfl); (exact rfl); (exact inferInstance); (exact rfl); (first | (with_reducible assumption) | omega | (focus (simp; done)) | (focus (simp; omega; done)) | decide); intro ws _ _))
          go_ret
          exact ⟨rfl, (stepN (w0 := w)).chg⟩
end Go.Proofs.Ytmijlojjkgeplaa
