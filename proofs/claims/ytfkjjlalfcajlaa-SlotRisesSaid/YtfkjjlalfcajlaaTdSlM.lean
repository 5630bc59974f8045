/- SlM -/
import Derived.Test.YtfkjjlalfcajlaaTdSlK
open Go Go.RowKit
namespace Go.Proofs.Ytfkjjlalfcajlaa
theorem row_get {l : List Row} {k : Nat} (h : k < l.length) : (cellsOf l)[k]? = some (.slice l[k].A l[k].p.length l[k].c) := by
  rw [cellsOf_rows, rowsV, List.getElem?_map, List.getElem?_eq_getElem h]
  rfl
theorem cells_len (l : List Row) : (cellsOf l).length = l.length := by
  rw [cellsOf_rows, rowsV, List.length_map]
set_option maxRecDepth 100000 in
set_option maxHeartbeats 3200000 in
theorem slotRises_calls {A : Option Addr} {n c : Nat} {l : List Row} {w : World} [hr : HR w A (cellsOf l)] (hl : l.length = n) (hmax : n ≤ 140737488355328) (hok : ∀ r ∈ l, RowIn w r) :
    Calls Try.prog 7 #[.slice A n c] w fun e w' => e = .returned (.bool true) ∧ Chg nowhere w w' := by
  have HL := Lib.hid hl
  have HOK := Lib.hid hok
  have hm9 : n ≤ 140737488355328 := hmax
  have HRA := Lib.hid hr.out
  have hcl : (cellsOf l).length = n := by rw [cells_len, hl]
  have HCL := Lib.hid hcl
  clear hl hok hmax hcl
  go_enter Try.func7, Try.ntmps7
  go_wp2_with (first | go_skip | ((with_reducible apply (wpl_guard (op := .load _ _))); (exact rfl)) | ((with_reducible apply (wpl_guard (op := .indexAddr _ _ _))); (exact rfl)) | ((with_reducible apply (wpl_guard (op := .convert _ _ _))); (exact rfl)) | ((with_reducible apply wpl_loadrow); (exact rfl); infer_instance; infer_instance; (first | (with_reducible assumption) | (with_reducible exact H32.size _) | kernel_rfl)) | ((with_reducible apply wpl_loadcellN); (exact rfl); infer_instance; (exact rfl)))
  go_loopw [3, 4] (fun zv iv wr => ∃ (k : Nat) (z : Int), k ≤ n ∧ zv = .int .i64 z ∧ 0 ≤ z ∧ z ≤ 2501 * (k : Int) ∧ iv = .int .i64 (k : Int) ∧ Step nowhere w wr ∧ Hid (∀ j (h : j < l.length), j < k → l[j].p.length ≤ 2500)) (fun _ iv _ => n - (intOf iv).toNat)
  case atStart => exact ⟨0, 0, Nat.zero_le _, rfl, Int.le_refl 0, Int.le_refl 0, rfl, stepN, Lib.hid (fun _ _ h => absurd h (Nat.not_lt_zero _))⟩
  case round =>
    obtain ⟨k, z, hk, rfl, hz0, hz1, rfl, _, HB⟩ := hrel
    by_cases hlt : k < n
    · have hltI : (k : Int) < n := by omega
      have hkl : k < l.length := by have := HL.out; omega
      have hl0 : 0 < (cellsOf l).length := by have := HCL.out; omega
      obtain ⟨r, hr⟩ : ∃ r, r = l[k] := ⟨_, rfl⟩
      have HROW : Hid ((cellsOf l)[k]? = some (.slice r.A r.p.length r.c)) := Lib.hid (by rw [hr]; exact row_get hkl)
      have HRR := Lib.hid hr
      obtain ⟨m, hm⟩ : ∃ m, m = r.p.length := ⟨_, rfl⟩
      rw [← hm] at HROW
      have HM := Lib.hid hm
      clear hr hm
      by_cases hlong : 2500 < m
      · have hlongI : 2500 < (m : Int) := by omega
        go_wp2_with (first | go_skip | ((with_reducible apply wpl_index1); (exact rfl); (exact rfl); infer_instance; infer_instance; (exact hl0); (exact hlt)) | ((with_reducible apply wpl_load1); (exact rfl); infer_instance; infer_instance; (exact HROW.out)) | ((with_reducible apply (wpl_guard (op := .load _ _))); (exact rfl)) | ((with_reducible apply (wpl_guard (op := .indexAddr _ _ _))); (exact rfl)) | ((with_reducible apply (wpl_guard (op := .convert _ _ _))); (exact rfl)) | ((with_reducible apply wpl_loadrow); (exact rfl); infer_instance; infer_instance; (first | (with_reducible assumption) | (with_reducible exact H32.size _) | kernel_rfl)) | ((with_reducible apply wpl_loadcellN); (exact rfl); infer_instance; (exact rfl)))
        go_ret
        exact ⟨rfl, (stepN (w0 := w)).chg⟩
      · have hlongI : ¬ 2500 < (m : Int) := by omega
        have hB2 : Hid (∀ j (h : j < l.length), j < k + 1 → l[j].p.length ≤ 2500) := Lib.hid (fun j h hj => by
          by_cases hjk : j = k
          · subst hjk
            rw [← HRR.out, ← HM.out]
            omega
          · exact HB.out j h (by omega))
        go_wp2_with (first | go_skip | ((with_reducible apply wpl_index1); (exact rfl); (exact rfl); infer_instance; infer_instance; (exact hl0); (exact hlt)) | ((with_reducible apply wpl_load1); (exact rfl); infer_instance; infer_instance; (exact HROW.out)) | ((with_reducible apply (wpl_guard (op := .load _ _))); (exact rfl)) | ((with_reducible apply (wpl_guard (op := .indexAddr _ _ _))); (exact rfl)) | ((with_reducible apply (wpl_guard (op := .convert _ _ _))); (exact rfl)) | ((with_reducible apply wpl_loadrow); (exact rfl); infer_instance; infer_instance; (first | (with_reducible assumption) | (with_reducible exact H32.size _) | kernel_rfl)) | ((with_reducible apply wpl_loadcellN); (exact rfl); infer_instance; (exact rfl)))
        exact ⟨⟨k + 1, z + 1 + m, by omega, by go_num, by omega, by omega, by go_num, stepN, hB2⟩, by simp [intOf]; omega⟩
    · have hltI : ¬ (k : Int) < n := by omega
      obtain rfl : k = n := by omega
      by_cases hbig : 6000 < z
      · go_wp2_with (first | go_skip | ((with_reducible apply (wpl_guard (op := .load _ _))); (exact rfl)) | ((with_reducible apply (wpl_guard (op := .indexAddr _ _ _))); (exact rfl)) | ((with_reducible apply (wpl_guard (op := .convert _ _ _))); (exact rfl)) | ((with_reducible apply wpl_loadrow); (exact rfl); infer_instance; infer_instance; (first | (with_reducible assumption) | (with_reducible exact H32.size _) | kernel_rfl)) | ((with_reducible apply wpl_loadcellN); (exact rfl); infer_instance; (exact rfl)))
        go_ret
        exact ⟨rfl, (stepN (w0 := w)).chg⟩
      by_cases hmany : 12 < k
      · have hmanyI : 12 < (k : Int) := by omega
        go_wp2_with (first | go_skip | ((with_reducible apply (wpl_guard (op := .load _ _))); (exact rfl)) | ((with_reducible apply (wpl_guard (op := .indexAddr _ _ _))); (exact rfl)) | ((with_reducible apply (wpl_guard (op := .convert _ _ _))); (exact rfl)) | ((with_reducible apply wpl_loadrow); (exact rfl); infer_instance; infer_instance; (first | (with_reducible assumption) | (with_reducible exact H32.size _) | kernel_rfl)) | ((with_reducible apply wpl_loadcellN); (exact rfl); infer_instance; (exact rfl)))
        go_ret
        exact ⟨rfl, (stepN (w0 := w)).chg⟩
      have hmanyI : ¬ 12 < (k : Int) := by omega
      go_wp2_with (first | go_skip | ((with_reducible apply (wpl_guard (op := .load _ _))); (exact rfl)) | ((with_reducible apply (wpl_guard (op := .indexAddr _ _ _))); (exact rfl)) | ((with_reducible apply (wpl_guard (op := .convert _ _ _))); (exact rfl)) | ((with_reducible apply wpl_loadrow); (exact rfl); infer_instance; infer_instance; (first | (with_reducible assumption) | (with_reducible exact H32.size _) | kernel_rfl)) | ((with_reducible apply wpl_loadcellN); (exact rfl); infer_instance; (exact rfl)))
      refine (slNew_calls _).mono ?_
      rintro e w1 ⟨g, p, rfl, h1, _, hg1, hp1⟩
      have hsz := (stepN (w0 := w) (w := wr)).chg.size
      have hg : w.heap.size ≤ g := Nat.le_trans hsz hg1
      have hp : w.heap.size ≤ p := Nat.le_trans hsz hp1
      have ab := above_two hg hp
      go_wp2_with (first | go_skip | ((with_reducible apply (wpl_guard (op := .load _ _))); (exact rfl)) | ((with_reducible apply (wpl_guard (op := .indexAddr _ _ _))); (exact rfl)) | ((with_reducible apply (wpl_guard (op := .convert _ _ _))); (exact rfl)) | ((with_reducible apply wpl_loadrow); (exact rfl); infer_instance; infer_instance; (first | (with_reducible assumption) | (with_reducible exact H32.size _) | kernel_rfl)) | ((with_reducible apply wpl_loadcellN); (exact rfl); infer_instance; (exact rfl)))
      refine (slLoad0_calls h1.out).mono ?_
      rintro e w2 ⟨B0, m0, d0, rfl, _⟩
      have h2 := Lib.hid (h1.out.calm (inferInstance : Step nowhere w1 w2).chg)
      clear hbig
      go_wp2_with (first | go_skip | ((with_reducible apply (wpl_guard (op := .load _ _))); (exact rfl)) | ((with_reducible apply (wpl_guard (op := .indexAddr _ _ _))); (exact rfl)) | ((with_reducible apply (wpl_guard (op := .convert _ _ _))); (exact rfl)) | ((with_reducible apply wpl_loadrow); (exact rfl); infer_instance; infer_instance; (first | (with_reducible assumption) | (with_reducible exact H32.size _) | kernel_rfl)) | ((with_reducible apply wpl_loadcellN); (exact rfl); infer_instance; (exact rfl)))
      go_loopw [9] (fun iv wr => ∃ (i : Nat) (b : List UInt8), i ≤ k ∧ iv = .int .i64 (i : Int) ∧ Step nowhere w wr ∧ Hid (SlotAt wr g p 80 i b)) (fun iv _ => k - (intOf iv).toNat)
      case atStart => exact ⟨0, [], Nat.zero_le _, rfl, stepN, h2⟩
      case round =>
        obtain ⟨i, b, hi, rfl, _, HS⟩ := hrel
        by_cases hlt : i < k
        · have hltI : (i : Int) < k := by omega
          have hkl : i < l.length := by have := HL.out; omega
          have hl0 : 0 < (cellsOf l).length := by have := HCL.out; omega
          obtain ⟨r, hr⟩ : ∃ r, r = l[i] := ⟨_, rfl⟩
          have HROW : Hid ((cellsOf l)[i]? = some (.slice r.A r.p.length r.c)) := Lib.hid (by rw [hr]; exact row_get hkl)
          have hrm : r ∈ l := by rw [hr]; exact List.getElem_mem hkl
          have hrb : r.p.length ≤ 2500 := by rw [hr]; exact HB.out i hkl hlt
          have hrd := (HOK.out r hrm).1
          have HRD := Lib.hid hrd
          obtain ⟨x, hx⟩ : ∃ x, x = r.p := ⟨_, rfl⟩
          obtain ⟨m, hm⟩ : ∃ m, m = r.p.length := ⟨_, rfl⟩
          have hxm : x.length = m := by rw [hx, hm]
          rw [← hx] at HRD
          rw [← hm] at HROW hrb
          have HXM := Lib.hid hxm
          have nr : Nw w wr := inferInstance
          have hrx : HR wr r.A (bs x) := ⟨HRD.out.later nr.out⟩
          have i12 : i ≤ 12 := by omega
          clear hr hrm hrd hx hm hxm
          go_wp2_with (first | go_skip | ((with_reducible apply wpl_index1); (exact rfl); (exact rfl); infer_instance; infer_instance; (exact hl0); (exact hlt)) | ((with_reducible apply wpl_load1); (exact rfl); infer_instance; infer_instance; (exact HROW.out)) | ((with_reducible apply (wpl_guard (op := .load _ _))); (exact rfl)) | ((with_reducible apply (wpl_guard (op := .indexAddr _ _ _))); (exact rfl)) | ((with_reducible apply (wpl_guard (op := .convert _ _ _))); (exact rfl)) | ((with_reducible apply wpl_loadrow); (exact rfl); infer_instance; infer_instance; (first | (with_reducible assumption) | (with_reducible exact H32.size _) | kernel_rfl)) | ((with_reducible apply wpl_loadcellN); (exact rfl); infer_instance; (exact rfl)))
          refine (slSave_calls (A := r.A) (m := m) (c := r.c) (x := x) HS.out HXM.out hrb (by omega)).mono ?_
          rintro e w3 ⟨rfl, h3, _⟩
          have n3 : Nw w w3 := inferInstance
          go_wp2_with (first | go_skip | ((with_reducible apply (wpl_guard (op := .load _ _))); (exact rfl)) | ((with_reducible apply (wpl_guard (op := .indexAddr _ _ _))); (exact rfl)) | ((with_reducible apply (wpl_guard (op := .convert _ _ _))); (exact rfl)) | ((with_reducible apply wpl_loadrow); (exact rfl); infer_instance; infer_instance; (first | (with_reducible assumption) | (with_reducible exact H32.size _) | kernel_rfl)) | ((with_reducible apply wpl_loadcellN); (exact rfl); infer_instance; (exact rfl)))
          refine (slLoad_calls h3.out (Nat.succ_ne_zero i)).mono ?_
          rintro e w4 ⟨B, mb, db, rfl, hmb, hdb, hB, hnB, _⟩
          have h4 := Lib.hid (h3.out.calm (inferInstance : Step nowhere w3 w4).chg)
          have n4 : Nw w w4 := inferInstance
          have hrx4 : HR w4 r.A (bs x) := ⟨HRD.out.later n4.out⟩
          have hA4 : HR w4 A (cellsOf l) := ⟨HRA.out.later n4.out⟩
          have hxm : x.length = m := HXM.out
          have hse : ((strL x).toList == (strL x).toList) = true := by simp
          go_wp2_with (first | go_skip | ((with_reducible apply (wpl_guard (op := .load _ _))); (exact rfl)) | ((with_reducible apply (wpl_guard (op := .indexAddr _ _ _))); (exact rfl)) | ((with_reducible apply (wpl_guard (op := .convert _ _ _))); (exact rfl)) | ((with_reducible apply wpl_loadrow); (exact rfl); infer_instance; infer_instance; (first | (with_reducible assumption) | (with_reducible exact H32.size _) | kernel_rfl)) | ((with_reducible apply wpl_loadcellN); (exact rfl); infer_instance; (exact rfl)))
          have HWR : Hid (IntKind.i64.wrap ((i : Int) + 1) = (i : Int) + 1) := Lib.hid (by rw [IntKind.wrap_i64]; omega)
          have HNQ : Hid ((((i : Int) + 1) != ((i : Int) + 1)) = false) := Lib.hid (by simp)
          refine wp_region_N (nowhere) (by kernel_rfl) (fun wd _ _ => ?_)
          refine' takeH (i := 0) (v := _) rfl (by kernel_rfl) (by kernel_rfl) (by kernel_rfl) (fun _ _ _ h => h) (yields_of (by rfl) (fun w' _ => ?_)) inferInstance ?_
          rotate_left
          · (go_simp; try with_reducible rfl)
          try simp only [Act.put, sA]; try simp only [sB, sC]
          refine' takeH (i := 1) (v := _) rfl (by kernel_rfl) (by kernel_rfl) (by kernel_rfl) (fun _ _ _ h => h) (yields_of (by rfl) (fun w' _ => ?_)) inferInstance ?_
          rotate_left
          · (go_simp; try with_reducible rfl)
          try simp only [Act.put, sA]; try simp only [sB, sC]
          try simp only [HWR.out]
          try simp only [HNQ.out]
          refine' takeH (i := 2) (v := _) rfl (by kernel_rfl) (by kernel_rfl) (by kernel_rfl) (fun _ _ _ h => h) (yields_of (by rfl) (fun w' _ => ?_)) inferInstance ?_
          rotate_left
          · (go_simp; try with_reducible rfl)
          try simp only [Act.put, sA]; try simp only [sB, sC]
          refine' takeH (i := 3) (v := _) rfl (by kernel_rfl) (by kernel_rfl) (by kernel_rfl) (fun _ _ _ h => h) (yields_of (by rfl) (fun w' _ => ?_)) inferInstance ?_
          rotate_left
          · (go_simp; try with_reducible rfl)
          try simp only [Act.put, sA]; try simp only [sB, sC]
          refine' takeH (i := 4) (v := _) rfl (by kernel_rfl) (by kernel_rfl) (by kernel_rfl) (fun _ _ _ h => h) (yields_of (by rfl) (fun w' _ => ?_)) inferInstance ?_
          rotate_left
          · (go_simp; try with_reducible rfl)
          try simp only [Act.put, sA]; try simp only [sB, sC]
          try simp only [HWR.out]
          try simp only [HNQ.out]
          refine' takeH (i := 5) (v := _) rfl (by kernel_rfl) (by kernel_rfl) (by kernel_rfl) (fun _ _ _ h => h) (yields_of (by rfl) (fun w' _ => ?_)) inferInstance ?_
          rotate_left
          · (go_simp; try with_reducible rfl)
          try simp only [Act.put, sA]; try simp only [sB, sC]
          refine' takeH (i := 6) (v := _) rfl (by kernel_rfl) (by kernel_rfl) (by kernel_rfl) (fun _ _ _ h => h) (yields_of (by rfl) (fun w' _ => ?_)) inferInstance ?_
          rotate_left
          · (go_simp; try with_reducible rfl)
          try simp only [Act.put, sA]; try simp only [sB, sC]
          refine' takeH (i := 7) (v := _) rfl (by kernel_rfl) (by kernel_rfl) (by kernel_rfl) (fun _ _ _ h => h) (yields_of (by rfl) (fun w' _ => ?_)) inferInstance ?_
          rotate_left
          · (go_simp; try with_reducible rfl)
          try simp only [Act.put, sA]; try simp only [sB, sC]
          refine' takeH (i := 8) (v := _) rfl (by kernel_rfl) (by kernel_rfl) (by kernel_rfl) (fun _ _ _ h => h) (yields_of (by rfl) (fun w' _ => ?_)) inferInstance ?_
          rotate_left
          · (go_simp; try with_reducible rfl)
          try simp only [Act.put, sA]; try simp only [sB, sC]
          refine' takeH (i := 9) (v := _) rfl (by kernel_rfl) (by kernel_rfl) (by kernel_rfl) (fun _ _ _ h => h) (yields_of (by rfl) (fun w' _ => ?_)) inferInstance ?_
          rotate_left
          · (go_simp; try with_reducible rfl)
          try simp only [Act.put, sA]; try simp only [sB, sC]
          try simp only [HWR.out]
          try simp only [HNQ.out]
          refine' takeH (i := 10) (v := _) rfl (by kernel_rfl) (by kernel_rfl) (by kernel_rfl) (fun _ _ _ h => h) (yields_of (by rfl) (fun w' _ => ?_)) inferInstance ?_
          rotate_left
          · (go_simp; try with_reducible rfl)
          try simp only [Act.put, sA]; try simp only [sB, sC]
          try simp only [HWR.out]
          try simp only [HNQ.out]
          refine' takeH (i := 11) (v := _) rfl (by kernel_rfl) (by kernel_rfl) (by kernel_rfl) (fun _ _ _ h => h) (yields_of (by rfl) (fun w' _ => ?_)) inferInstance ?_
          rotate_left
          · (go_simp; try with_reducible rfl)
          try simp only [Act.put, sA]; try simp only [sB, sC]
          refine' takeH (i := 12) (v := _) rfl (by kernel_rfl) (by kernel_rfl) (by kernel_rfl) (fun _ _ _ h => h) (yields_of (by rfl) (fun w' _ => ?_)) inferInstance ?_
          rotate_left
          · (go_simp; try with_reducible rfl)
          try simp only [Act.put, sA]; try simp only [sB, sC]
          refine' takeH (i := 13) (v := _) rfl (by kernel_rfl) (by kernel_rfl) (by kernel_rfl) (fun _ _ _ h => h) (yields_of (by rfl) (fun w' _ => ?_)) inferInstance ?_
          rotate_left
          · (go_simp; try with_reducible rfl)
          try simp only [Act.put, sA]; try simp only [sB, sC]
          refine' takeH (i := 14) (v := _) rfl (by kernel_rfl) (by kernel_rfl) (by kernel_rfl) (fun _ _ _ h => h) (yields_of (by rfl) (fun w' _ => ?_)) inferInstance ?_
          rotate_left
          · (first | ((with_reducible apply ev_conv); (exact rfl); infer_instance; (first | (with_reducible assumption) | (focus (simp; done)) | omega); (exact Try.underlying28); (exact Try.underlying5); (exact Try.underlying9)) | (go_simp; try with_reducible rfl))
          try simp only [Act.put, sA]; try simp only [sB, sC]
          refine' takeH (i := 15) (v := _) rfl (by kernel_rfl) (by kernel_rfl) (by kernel_rfl) (fun _ _ _ h => h) (yields_of (by rfl) (fun w' _ => ?_)) inferInstance ?_
          rotate_left
          · (go_simp; try with_reducible rfl)
          try simp only [Act.put, sA]; try simp only [sB, sC]
          refine' takeH (i := 16) (v := _) rfl (by kernel_rfl) (by kernel_rfl) (by kernel_rfl) (fun _ _ _ h => h) (yields_of (by rfl) (fun w' _ => ?_)) inferInstance ?_
          rotate_left
          · (go_simp; try with_reducible rfl)
          try simp only [Act.put, sA]; try simp only [sB, sC]
          refine' takeH (i := 17) (v := _) rfl (by kernel_rfl) (by kernel_rfl) (by kernel_rfl) (fun _ _ _ h => h) (yields_of (by rfl) (fun w' _ => ?_)) inferInstance ?_
          rotate_left
          · (first | ((with_reducible apply ev_index1); (exact rfl); (exact rfl); infer_instance; infer_instance; (exact hl0); (exact hlt)))
          try simp only [Act.put, sA]; try simp only [sB, sC]
          refine' takeH (i := 18) (v := _) rfl (by kernel_rfl) (by kernel_rfl) (by kernel_rfl) (fun _ _ _ h => h) (yields_of (by rfl) (fun w' _ => ?_)) inferInstance ?_
          rotate_left
          · (first | ((with_reducible apply ev_load1); (exact rfl); infer_instance; infer_instance; (exact HROW.out)))
          try simp only [Act.put, sA]; try simp only [sB, sC]
          refine' takeH (i := 19) (v := _) rfl (by kernel_rfl) (by kernel_rfl) (by kernel_rfl) (fun _ _ _ h => h) (yields_of (by rfl) (fun w' _ => ?_)) inferInstance ?_
          rotate_left
          · (first | ((with_reducible apply ev_conv); (exact rfl); infer_instance; (first | (with_reducible assumption) | (focus (simp; done)) | omega); (exact Try.underlying28); (exact Try.underlying5); (exact Try.underlying9)) | (go_simp; try with_reducible rfl))
          try simp only [Act.put, sA]; try simp only [sB, sC]
          refine' takeH (i := 20) (v := _) rfl (by kernel_rfl) (by kernel_rfl) (by kernel_rfl) (fun _ _ _ h => h) (yields_of (by rfl) (fun w' _ => ?_)) inferInstance ?_
          rotate_left
          · (go_simp; try with_reducible rfl)
          try simp only [Act.put, sA]; try simp only [sB, sC]
          try simp only [HWR.out]
          try simp only [HNQ.out]
          refine' takeH (i := 21) (v := _) rfl (by kernel_rfl) (by kernel_rfl) (by kernel_rfl) (fun _ _ _ h => h) (yields_of (by rfl) (fun w' _ => ?_)) inferInstance ?_
          rotate_left
          · (go_simp; try with_reducible rfl)
          try simp only [Act.put, sA]; try simp only [sB, sC]
          refine wpAnyH_done (by kernel_rfl) ?_ _
          go_wp2_with (first | go_skip | ((with_reducible apply (wpl_guard (op := .load _ _))); (exact rfl)) | ((with_reducible apply (wpl_guard (op := .indexAddr _ _ _))); (exact rfl)) | ((with_reducible apply (wpl_guard (op := .convert _ _ _))); (exact rfl)) | ((with_reducible apply wpl_loadrow); (exact rfl); infer_instance; infer_instance; (first | (with_reducible assumption) | (with_reducible exact H32.size _) | kernel_rfl)) | ((with_reducible apply wpl_loadcellN); (exact rfl); infer_instance; (exact rfl)))
          exact ⟨⟨i + 1, x, by omega, by go_num, stepN, Lib.hid (h4.out.calm (stepN (w0 := w4)).chg)⟩, by simp [intOf]; omega⟩
        · have hltI : ¬ (i : Int) < k := by omega
          go_wp2_with (first | go_skip | ((with_reducible apply (wpl_guard (op := .load _ _))); (exact rfl)) | ((with_reducible apply (wpl_guard (op := .indexAddr _ _ _))); (exact rfl)) | ((with_reducible apply (wpl_guard (op := .convert _ _ _))); (exact rfl)) | ((with_reducible apply wpl_loadrow); (exact rfl); infer_instance; infer_instance; (first | (with_reducible assumption) | (with_reducible exact H32.size _) | kernel_rfl)) | ((with_reducible apply wpl_loadcellN); (exact rfl); infer_instance; (exact rfl)))
          refine (slKnown_calls _).mono ?_
          rintro e w5 ⟨rfl, _⟩
          go_wp2_with (first | go_skip | ((with_reducible apply (wpl_guard (op := .load _ _))); (exact rfl)) | ((with_reducible apply (wpl_guard (op := .indexAddr _ _ _))); (exact rfl)) | ((with_reducible apply (wpl_guard (op := .convert _ _ _))); (exact rfl)) | ((with_reducible apply wpl_loadrow); (exact rfl); infer_instance; infer_instance; (first | (with_reducible assumption) | (with_reducible exact H32.size _) | kernel_rfl)) | ((with_reducible apply wpl_loadcellN); (exact rfl); infer_instance; (exact rfl)))
          go_ret
          exact ⟨rfl, (stepN (w0 := w)).chg⟩
end Go.Proofs.Ytfkjjlalfcajlaa
