/- SlR -/
import Derived.Test.YtegdihpnefoolaaTjSlP
import Derived.Test.YtegdihpnefoolaaTjRrC
import Derived.Test.YtegdihpnefoolaaTjPgQ
open Go Go.RowKit

namespace Go.Proofs.Ytegdihpnefoolaa
def flatF (s : RFS) (o i : Nat) : List UInt8 := ((List.range (i - o)).map fun j => s.pageN (o + j)).flatten
theorem flatF_next (s : RFS) {o i : Nat} (h : o ≤ i) : flatF s o (i + 1) = flatF s o i ++ s.pageN i := by
  unfold flatF
  rw [show i + 1 - o = (i - o) + 1 by omega, List.range_succ, List.map_append, List.flatten_append, List.map_singleton, List.flatten_singleton, show o + (i - o) = i by omega]
theorem flatF_nil (s : RFS) (o : Nat) : flatF s o o = [] := by
  unfold flatF
  rw [Nat.sub_self]
  rfl
def wholeS (al : List UInt8) : List UInt8 × Nat := if (unpS al).ok = true then ((unpS al).b, (unpS al).n) else ([], 0)
theorem rrAt_sl (w : World) (z : Nat) {A : Option Addr} {n c : Nat} {b : List UInt8} (hb : HB w z 133 #[.slice A n c, .bool false]) (hr : Rd w A (bs b)) (hn : b.length = n) (hc : n ≤ c) (hz : b ≠ [] → ∀ ad, A = some ad → ad.block ≠ z) : ∃ d, RRAt w z d ⟨b, false⟩ := by
  by_cases h0 : b = []
  · exact ⟨z + 1, ⟨⟨A, n, c, hn.symm, hc, hb.out, hr, fun ad e h => absurd h0 h⟩, by omega, fun h => by cases h⟩⟩
  · obtain ⟨ad, e, _⟩ := hr.lt (by rw [bs_length]; exact List.length_pos_iff.2 h0)
    exact ⟨ad.block, ⟨⟨A, n, c, hn.symm, hc, hb.out, hr, fun ad' e' _ => by rw [e] at e'; injection e' with e'; rw [e']⟩, hz h0 ad e, fun h => by cases h⟩⟩
theorem wholeS_no {al : List UInt8} (h : (unpS al).ok = false) : wholeS al = ([], 0) := by rw [wholeS, h]; rfl
set_option maxRecDepth 100000 in
set_option maxHeartbeats 3200000 in
theorem whole_calls {w : World} {x : Nat} {T : Nat → Prop} {s : RFS} (o : Nat) (h : RF w x T s) (hN : o + 40 ≤ s.pgs.length) (v : Int) (hv : v = (o : Int)) :
    Calls Try.prog 66 #[.pointer (some ⟨x, 0, none⟩), .int .i64 v] w fun e w' => ∃ B m d, e = .returned (.tuple #[.slice B m d, .int .i64 ((wholeS (flatF s o (o + 40))).2 : Int)]) ∧ (wholeS (flatF s o (o + 40))).1.length = m ∧ m ≤ d ∧ HR w' B (bs (wholeS (flatF s o (o + 40))).1) ∧ NewA w B ∧ Step nowhere w w' := by
  subst hv
  obtain ⟨A, kk, c, rows, h1, h2, h3, h4, h5⟩ := h
  have hb : HB w x 63 _ := ⟨h1.head⟩
  have hl : s.pgs.length = kk := by rw [← h2, List.length_map, h1.num]
  have hk : kk ≤ 256 := h1.most
  rw [hl] at hN
  have ht : HR w A (cellsOf rows) := ⟨h1.tab.rd⟩
  have hlt : 0 < (cellsOf rows).length := by rw [cellsOf_rows, rowsV, List.length_map, h1.num]; omega
  have hpg : ∀ j, j < kk → (cellsOf rows)[j]? = some (.slice (gt rows j).A 64 (gt rows j).c) ∧ (s.pageN j).length = 64 ∧ Rd w (gt rows j).A (bs (s.pageN j)) := fun j hj => by
    have hjr : j < rows.length := by rw [h1.num]; exact hj
    have hm := gt_mem rows j hjr
    have hP := row_page h2 j hjr
    exact ⟨tab_get j hjr h1.len, by rw [← hP]; exact h1.len _ hm, by rw [← hP]; exact (h1.each _ hm).rd⟩
  have HPG := Lib.hid hpg
  obtain ⟨W, hW⟩ : ∃ W, W = wholeS (flatF s o (o + 40)) := ⟨_, rfl⟩
  have HW := Lib.hid hW
  rw [← hW]
  clear h1 h2 h3 h4 h5 hl hpg hW
  go_enter Try.func66, Try.ntmps66
  go_wp2_with (first | go_skip | ((with_reducible apply wpl_box_agg); (exact rfl); intro z wz _ _ _) | ((with_reducible apply wpl_box_int); (exact rfl); intro z wz _ _ _) | ((with_reducible apply wpl_box_slice); (exact rfl); intro z wz _ _ _) | ((with_reducible apply wpl_box_str); (exact rfl); intro z wz _ _ _) | ((with_reducible apply wpl_box_bool); (exact rfl); intro z wz _ _ _) | ((with_reducible apply wpl_box_ptr); (exact rfl); intro z wz _ _ _) | ((with_reducible apply (wpl_guard (op := .slice _ _ none none none))); (exact rfl)) | ((with_reducible apply (wpl_guard (op := .convert _ _ _))); (exact rfl)) | ((with_reducible apply wpl_loadrow); (exact rfl); infer_instance; infer_instance; (first | (with_reducible assumption) | (with_reducible exact H32.size _) | kernel_rfl)) | ((with_reducible apply wpl_loadcellN); (exact rfl); infer_instance; (exact rfl)))
  go_loopw [6, 7] (fun xv iv wr => ∃ (i nn : Nat) (L : Option Addr) (cL : Nat) (b : List UInt8), o ≤ i ∧ i ≤ o + 40 ∧ iv = .int .i64 (i : Int) ∧ xv = .slice L nn cL ∧ Step nowhere w wr ∧ HO wr 5 1 L nn cL (bs b) ∧ NewA w L ∧ Hid (nn = (i - o) * 64) ∧ Hid (b = flatF s o i) ∧ Hid (b.length = nn) ∧ nn ≤ cL) (fun _ iv _ => o + 40 - (intOf iv).toNat)
  case atStart => exact ⟨o, 0, none, 0, [], Nat.le_refl _, by omega, rfl, rfl, stepN, ⟨Own.nil _ _ _⟩, ⟨fun ad e => by cases e⟩, Lib.hid (by omega), Lib.hid (flatF_nil s o).symm, Lib.hid rfl, Nat.le_refl _⟩
  case round =>
    obtain ⟨i, nn, L, cL, b, ho, hi, rfl, rfl, _, hL, hnL, HNN, HBF, HBL, hcL⟩ := hrel
    by_cases hlt2 : i < o + 40
    · have hltI : (i : Int) < (o : Int) + 40 := by omega
      have hj : i < kk := by omega
      obtain ⟨hvt, hlen, hrd⟩ := HPG.out i hj
      have hn1 : nn + 64 ≤ 100000000000 := by have := HNN.out; omega
      have n0 : Nw w wr := inferInstance
      have hpg : HR wr (gt rows i).A (bs (s.pageN i)) := ⟨hrd.later n0.out⟩
      obtain ⟨R, hR⟩ : ∃ R, R = (gt rows i).A := ⟨_, rfl⟩
      obtain ⟨rc, hrc⟩ : ∃ R, R = (gt rows i).c := ⟨_, rfl⟩
      obtain ⟨pg, hpgE⟩ : ∃ R, R = s.pageN i := ⟨_, rfl⟩
      rw [← hR, ← hrc] at hvt
      rw [← hR, ← hpgE] at hpg
      rw [← hpgE] at hlen
      have HPE := Lib.hid hpgE
      clear hrd hR hrc hpgE
      go_wp2_with (first | go_skip | ((with_reducible apply (wpl_index1 (k := i))); (exact rfl); (exact rfl); infer_instance; infer_instance; (exact hlt); (exact hj)) | ((with_reducible apply wpl_load1); (exact rfl); infer_instance; infer_instance; (exact hvt)) | ((with_reducible apply wpl_appendB); (exact rfl); (exact rfl); infer_instance; infer_instance; infer_instance; (exact hlen); (exact hn1); intro A3 c3 wa _ hO3 hG3 hcap3) | ((with_reducible apply wpl_box_agg); (exact rfl); intro z wz _ _ _) | ((with_reducible apply wpl_box_int); (exact rfl); intro z wz _ _ _) | ((with_reducible apply wpl_box_slice); (exact rfl); intro z wz _ _ _) | ((with_reducible apply wpl_box_str); (exact rfl); intro z wz _ _ _) | ((with_reducible apply wpl_box_bool); (exact rfl); intro z wz _ _ _) | ((with_reducible apply wpl_box_ptr); (exact rfl); intro z wz _ _ _) | ((with_reducible apply (wpl_guard (op := .slice _ _ none none none))); (exact rfl)) | ((with_reducible apply (wpl_guard (op := .convert _ _ _))); (exact rfl)) | ((with_reducible apply wpl_loadrow); (exact rfl); infer_instance; infer_instance; (first | (with_reducible assumption) | (with_reducible exact H32.size _) | kernel_rfl)) | ((with_reducible apply wpl_loadcellN); (exact rfl); infer_instance; (exact rfl)))
      exact ⟨⟨i + 1, nn + 64, A3, c3, _, by omega, by omega, by go_num, rfl, stepN, hO3, inferInstance, Lib.hid (by have := HNN.out; omega), Lib.hid (by rw [HBF.out, HPE.out, flatF_next s ho]), Lib.hid (by rw [List.length_append, HBL.out, hlen]), hcap3⟩, by simp [intOf]; omega⟩
    · have hltI : ¬ (i : Int) < (o : Int) + 40 := by omega
      obtain rfl : i = o + 40 := by omega
      rw [← HBF.out] at HW
      have kbR : ∀ w, (Instr.build 133 #[(0, .slice L nn cL)]).run Try.prog w = .ok (.agg #[.slice L nn cL, .bool false]) w := fun _ => by kernel_rfl
      have hnn : nn = 2560 := by have := HNN.out; omega
      have HRL := Lib.hid hL.out.rd
      obtain ⟨U, hU⟩ : ∃ U, U = unpS b := ⟨_, rfl⟩
      obtain ⟨E, hE⟩ : ∃ E, E = rdE b := ⟨_, rfl⟩
      obtain ⟨N, hN3⟩ : ∃ N, N = rdN b := ⟨_, rfl⟩
      obtain ⟨bb, hbb⟩ : ∃ bb, bb = rdB b := ⟨_, rfl⟩
      have hU2 : unpS b = if (!E && decide (1 ≤ N) && decide (N ≤ 1073741824) && decide (bb.length ≤ 2500)) = true then ⟨N, bb, prefB b (packS N bb)⟩ else ⟨0, [], false⟩ := by
        rw [hE, hN3, hbb]
        rfl
      have hbl2 : bb.length ≤ 2560 := by rw [hbb]; have h1 := rdB_len b; have := HBL.out; omega
      have HU := Lib.hid hU2
      have HE : Hid ((⟨b, false⟩ : RS).num.2.row.2.e = E) := Lib.hid hE.symm
      have HN3 : Hid ((⟨b, false⟩ : RS).num.1 = N) := Lib.hid hN3.symm
      have HBB : Hid ((⟨b, false⟩ : RS).num.2.row.1 = bb) := Lib.hid hbb.symm
      have HN2 := Lib.hid hnn
      have hnn9 : nn ≤ 1000000000000 := by omega
      clear hU hE hN3 hbb hU2 hnn
      have nwr : Nw w wr := inferInstance
      go_wp2_with (first | go_skip | ((with_reducible apply wpl_build); (exact kbR _)) | ((with_reducible apply (wpl_box_agg (dst := some 30))); (exact rfl); intro zr wzr _ _ _) | ((with_reducible apply (wpl_box_int (dst := some 30))); (exact rfl); intro zr wzr _ _ _) | ((with_reducible apply (wpl_box_slice (dst := some 30))); (exact rfl); intro zr wzr _ _ _) | ((with_reducible apply (wpl_box_str (dst := some 30))); (exact rfl); intro zr wzr _ _ _) | ((with_reducible apply (wpl_box_bool (dst := some 30))); (exact rfl); intro zr wzr _ _ _) | ((with_reducible apply (wpl_box_ptr (dst := some 30))); (exact rfl); intro zr wzr _ _ _) | ((with_reducible apply wpl_box_agg); (exact rfl); intro z wz _ _ _) | ((with_reducible apply wpl_box_int); (exact rfl); intro z wz _ _ _) | ((with_reducible apply wpl_box_slice); (exact rfl); intro z wz _ _ _) | ((with_reducible apply wpl_box_str); (exact rfl); intro z wz _ _ _) | ((with_reducible apply wpl_box_bool); (exact rfl); intro z wz _ _ _) | ((with_reducible apply wpl_box_ptr); (exact rfl); intro z wz _ _ _) | ((with_reducible apply (wpl_guard (op := .slice _ _ none none none))); (exact rfl)) | ((with_reducible apply (wpl_guard (op := .convert _ _ _))); (exact rfl)) | ((with_reducible apply wpl_loadrow); (exact rfl); infer_instance; infer_instance; (first | (with_reducible assumption) | (with_reducible exact H32.size _) | kernel_rfl)) | ((with_reducible apply wpl_loadcellN); (exact rfl); infer_instance; (exact rfl)))
      have hzr : wr.heap.size ≤ zr := (NewA.monoS (w0 := wr) (NewA.of_born (z := zr) 0)).out ⟨zr, 0, none⟩ rfl
      have st0 : Nw wr wzr := inferInstance
      obtain ⟨d, hR0⟩ := rrAt_sl wzr zr (inferInstance : HB wzr zr 133 #[.slice L nn cL, .bool false]) (HRL.out.later st0.out) HBL.out hcL (fun hne ad e h => by
        have h1 := rd_lt HRL.out (by simpa [bs] using hne) e
        omega)
      refine (rrNum_calls zr d ⟨b, false⟩ wzr hR0 (by show b.length ≤ _; rw [HBL.out]; exact hnn9)).mono ?_
      rw [HN3.out]
      rintro e w5 ⟨rfl, h5, c5⟩
      have n5 : Nw wr w5 := ⟨st0.out.trans c5.out (fun x hx h => by have h' : x = zr := h; omega)⟩
      have HR5 := h5
      clear h5 c5
      go_wp2_with (first | go_skip | ((with_reducible apply wpl_box_agg); (exact rfl); intro z wz _ _ _) | ((with_reducible apply wpl_box_int); (exact rfl); intro z wz _ _ _) | ((with_reducible apply wpl_box_slice); (exact rfl); intro z wz _ _ _) | ((with_reducible apply wpl_box_str); (exact rfl); intro z wz _ _ _) | ((with_reducible apply wpl_box_bool); (exact rfl); intro z wz _ _ _) | ((with_reducible apply wpl_box_ptr); (exact rfl); intro z wz _ _ _) | ((with_reducible apply (wpl_guard (op := .slice _ _ none none none))); (exact rfl)) | ((with_reducible apply (wpl_guard (op := .convert _ _ _))); (exact rfl)) | ((with_reducible apply wpl_loadrow); (exact rfl); infer_instance; infer_instance; (first | (with_reducible assumption) | (with_reducible exact H32.size _) | kernel_rfl)) | ((with_reducible apply wpl_loadcellN); (exact rfl); infer_instance; (exact rfl)))
      refine (rrBytes_calls zr d _ w5 HR5.out (by have h1 := RS.num_le ⟨b, false⟩; have h2 : (⟨b, false⟩ : RS).b.length = b.length := rfl; have := HBL.out; omega)).mono ?_
      rw [HBB.out]
      rintro e w6 ⟨B, m, dd, rfl, hm3, ho3, h6, c6, hn3⟩
      have n6 : Nw wr w6 := ⟨n5.out.trans c6.out (fun x hx h => by have h' : x = zr := h; omega)⟩
      have nw6 : Nw w w6 := ⟨nwr.out.trans n6.out (fun x _ h => h.elim)⟩
      have hB3 : HO w6 5 1 B m dd (bs bb) := ⟨ho3.out⟩
      have hcapB := own_cap ho3.out
      have nB : NewA w B := ⟨fun ad e => Nat.le_trans (Nat.le_trans nwr.out.size n5.out.size) (hn3.out ad e)⟩
      have HM3 : Hid (bb.length = m) := Lib.hid hm3.out.symm
      have hbz : ∃ A6 x6 c6, HB w6 zr 133 #[.slice A6 x6 c6, .bool E] := by
        obtain ⟨⟨A6, x6, c6, _, _, hb6, _⟩, _⟩ := h6.out
        exact ⟨A6, x6, c6, ⟨by rw [← HE.out]; exact hb6⟩⟩
      obtain ⟨A6, x6, c6', hbz⟩ := hbz
      clear h6 c6 hm3 ho3 hn3
      cases E with
      | true =>
        have HW2 : Hid (W = ([], 0)) := Lib.hid (by rw [HW.out]; exact wholeS_no (by rw [HU.out, if_neg (by simp)]))
        go_wp2_with (first | go_skip | ((with_reducible apply (wpl_guard (op := .call _))); (exact rfl)) | ((with_reducible apply (wpl_guard (op := .load _ _))); (exact rfl)) | ((with_reducible apply wpl_box_agg); (exact rfl); intro z wz _ _ _) | ((with_reducible apply wpl_box_int); (exact rfl); intro z wz _ _ _) | ((with_reducible apply wpl_box_slice); (exact rfl); intro z wz _ _ _) | ((with_reducible apply wpl_box_str); (exact rfl); intro z wz _ _ _) | ((with_reducible apply wpl_box_bool); (exact rfl); intro z wz _ _ _) | ((with_reducible apply wpl_box_ptr); (exact rfl); intro z wz _ _ _) | ((with_reducible apply (wpl_guard (op := .slice _ _ none none none))); (exact rfl)) | ((with_reducible apply (wpl_guard (op := .convert _ _ _))); (exact rfl)) | ((with_reducible apply wpl_loadrow); (exact rfl); infer_instance; infer_instance; (first | (with_reducible assumption) | (with_reducible exact H32.size _) | kernel_rfl)) | ((with_reducible apply wpl_loadcellN); (exact rfl); infer_instance; (exact rfl)))
        go_ret2
        rw [HW2.out]
        exact ⟨none, 0, 0, rfl, rfl, Nat.le_refl _, ⟨Rd.nil _ _⟩, ⟨fun ad e => by cases e⟩, stepN⟩
      | false =>
        by_cases c1 : N < 1
        · have HW2 : Hid (W = ([], 0)) := Lib.hid (by rw [HW.out]; exact wholeS_no (by rw [HU.out, if_neg (by simp; omega)]))
          have c1I : (N : Int) < 1 := by omega
          go_wp2_with (first | go_skip | ((with_reducible apply (wpl_guard (op := .call _))); (exact rfl)) | ((with_reducible apply (wpl_guard (op := .load _ _))); (exact rfl)) | ((with_reducible apply wpl_box_agg); (exact rfl); intro z wz _ _ _) | ((with_reducible apply wpl_box_int); (exact rfl); intro z wz _ _ _) | ((with_reducible apply wpl_box_slice); (exact rfl); intro z wz _ _ _) | ((with_reducible apply wpl_box_str); (exact rfl); intro z wz _ _ _) | ((with_reducible apply wpl_box_bool); (exact rfl); intro z wz _ _ _) | ((with_reducible apply wpl_box_ptr); (exact rfl); intro z wz _ _ _) | ((with_reducible apply (wpl_guard (op := .slice _ _ none none none))); (exact rfl)) | ((with_reducible apply (wpl_guard (op := .convert _ _ _))); (exact rfl)) | ((with_reducible apply wpl_loadrow); (exact rfl); infer_instance; infer_instance; (first | (with_reducible assumption) | (with_reducible exact H32.size _) | kernel_rfl)) | ((with_reducible apply wpl_loadcellN); (exact rfl); infer_instance; (exact rfl)))
          go_ret2
          rw [HW2.out]
          exact ⟨none, 0, 0, rfl, rfl, Nat.le_refl _, ⟨Rd.nil _ _⟩, ⟨fun ad e => by cases e⟩, stepN⟩
        · have c1I : ¬ (N : Int) < 1 := by omega
          by_cases c2 : 1073741824 < N
          · have HW2 : Hid (W = ([], 0)) := Lib.hid (by rw [HW.out]; exact wholeS_no (by rw [HU.out, if_neg (by simp; omega)]))
            have c2I : 1073741824 < (N : Int) := by omega
            go_wp2_with (first | go_skip | ((with_reducible apply (wpl_guard (op := .call _))); (exact rfl)) | ((with_reducible apply (wpl_guard (op := .load _ _))); (exact rfl)) | ((with_reducible apply wpl_box_agg); (exact rfl); intro z wz _ _ _) | ((with_reducible apply wpl_box_int); (exact rfl); intro z wz _ _ _) | ((with_reducible apply wpl_box_slice); (exact rfl); intro z wz _ _ _) | ((with_reducible apply wpl_box_str); (exact rfl); intro z wz _ _ _) | ((with_reducible apply wpl_box_bool); (exact rfl); intro z wz _ _ _) | ((with_reducible apply wpl_box_ptr); (exact rfl); intro z wz _ _ _) | ((with_reducible apply (wpl_guard (op := .slice _ _ none none none))); (exact rfl)) | ((with_reducible apply (wpl_guard (op := .convert _ _ _))); (exact rfl)) | ((with_reducible apply wpl_loadrow); (exact rfl); infer_instance; infer_instance; (first | (with_reducible assumption) | (with_reducible exact H32.size _) | kernel_rfl)) | ((with_reducible apply wpl_loadcellN); (exact rfl); infer_instance; (exact rfl)))
            go_ret2
            rw [HW2.out]
            exact ⟨none, 0, 0, rfl, rfl, Nat.le_refl _, ⟨Rd.nil _ _⟩, ⟨fun ad e => by cases e⟩, stepN⟩
          · have c2I : ¬ 1073741824 < (N : Int) := by omega
            by_cases c3 : 2500 < m
            · have HW2 : Hid (W = ([], 0)) := Lib.hid (by rw [HW.out]; exact wholeS_no (by rw [HU.out, if_neg (by have := HM3.out; simp; omega)]))
              have c3I : 2500 < (m : Int) := by omega
              go_wp2_with (first | go_skip | ((with_reducible apply (wpl_guard (op := .call _))); (exact rfl)) | ((with_reducible apply (wpl_guard (op := .load _ _))); (exact rfl)) | ((with_reducible apply wpl_box_agg); (exact rfl); intro z wz _ _ _) | ((with_reducible apply wpl_box_int); (exact rfl); intro z wz _ _ _) | ((with_reducible apply wpl_box_slice); (exact rfl); intro z wz _ _ _) | ((with_reducible apply wpl_box_str); (exact rfl); intro z wz _ _ _) | ((with_reducible apply wpl_box_bool); (exact rfl); intro z wz _ _ _) | ((with_reducible apply wpl_box_ptr); (exact rfl); intro z wz _ _ _) | ((with_reducible apply (wpl_guard (op := .slice _ _ none none none))); (exact rfl)) | ((with_reducible apply (wpl_guard (op := .convert _ _ _))); (exact rfl)) | ((with_reducible apply wpl_loadrow); (exact rfl); infer_instance; infer_instance; (first | (with_reducible assumption) | (with_reducible exact H32.size _) | kernel_rfl)) | ((with_reducible apply wpl_loadcellN); (exact rfl); infer_instance; (exact rfl)))
              go_ret2
              rw [HW2.out]
              exact ⟨none, 0, 0, rfl, rfl, Nat.le_refl _, ⟨Rd.nil _ _⟩, ⟨fun ad e => by cases e⟩, stepN⟩
            · have c3I : ¬ 2500 < (m : Int) := by omega
              have HU3 : Hid (unpS b = ⟨N, bb, prefB b (packS N bb)⟩) := Lib.hid (by rw [HU.out, if_pos (by have := HM3.out; simp; omega)])
              clear HU
              go_wp2_with (first | go_skip | ((with_reducible apply (wpl_guard (op := .call _))); (exact rfl)) | ((with_reducible apply (wpl_guard (op := .load _ _))); (exact rfl)) | ((with_reducible apply wpl_box_agg); (exact rfl); intro z wz _ _ _) | ((with_reducible apply wpl_box_int); (exact rfl); intro z wz _ _ _) | ((with_reducible apply wpl_box_slice); (exact rfl); intro z wz _ _ _) | ((with_reducible apply wpl_box_str); (exact rfl); intro z wz _ _ _) | ((with_reducible apply wpl_box_bool); (exact rfl); intro z wz _ _ _) | ((with_reducible apply wpl_box_ptr); (exact rfl); intro z wz _ _ _) | ((with_reducible apply (wpl_guard (op := .slice _ _ none none none))); (exact rfl)) | ((with_reducible apply (wpl_guard (op := .convert _ _ _))); (exact rfl)) | ((with_reducible apply wpl_loadrow); (exact rfl); infer_instance; infer_instance; (first | (with_reducible assumption) | (with_reducible exact H32.size _) | kernel_rfl)) | ((with_reducible apply wpl_loadcellN); (exact rfl); infer_instance; (exact rfl)))
              refine (refPack_calls (b := bb) (N : Int) HM3.out (by omega)).mono ?_
              obtain ⟨pk, hpk⟩ : ∃ pk, pk = packS (N : Int) bb := ⟨_, rfl⟩
              have HPK := Lib.hid hpk
              rw [← hpk]
              rw [← hpk] at HU3
              clear hpk
              rintro e w7 ⟨P, pn, pc, rfl, hpl, hP, _⟩
              have n7 : Nw wr w7 := ⟨n6.out.trans (inferInstance : Step nowhere w6 w7).chg (fun x _ h => h.elim)⟩
              clear hL
              have HPL := Lib.hid hpl
              clear hpl
              by_cases hgt : nn < pn
              · have hgtI : (nn : Int) < (pn : Int) := by omega
                have HG : Hid (decide ((nn : Int) < (pn : Int)) = true) := Lib.hid (decide_eq_true hgtI)
                have HSE : Hid (True = True) := Lib.hid rfl
                have HW2 : Hid (W = ([], 0)) := Lib.hid (by
                  rw [HW.out]
                  refine wholeS_no ?_
                  rw [HU3.out]
                  show prefB b pk = false
                  rw [prefB, decide_eq_false (by rw [HPL.out, HBL.out]; omega)]
                  rfl)
                clear HU3
                go_wp2_with (first | go_skip | ((with_reducible apply wpl_box_agg); (exact rfl); intro z wz _ _ _) | ((with_reducible apply wpl_box_int); (exact rfl); intro z wz _ _ _) | ((with_reducible apply wpl_box_slice); (exact rfl); intro z wz _ _ _) | ((with_reducible apply wpl_box_str); (exact rfl); intro z wz _ _ _) | ((with_reducible apply wpl_box_bool); (exact rfl); intro z wz _ _ _) | ((with_reducible apply wpl_box_ptr); (exact rfl); intro z wz _ _ _) | ((with_reducible apply (wpl_guard (op := .slice _ _ none none none))); (exact rfl)) | ((with_reducible apply (wpl_guard (op := .convert _ _ _))); (exact rfl)) | ((with_reducible apply wpl_loadrow); (exact rfl); infer_instance; infer_instance; (first | (with_reducible assumption) | (with_reducible exact H32.size _) | kernel_rfl)) | ((with_reducible apply wpl_loadcellN); (exact rfl); infer_instance; (exact rfl)))
                refine wp_region_N (nowhere) (by kernel_rfl) (fun wd _ _ => ?_)
                refine' takeH (i := 0) (v := _) rfl (by kernel_rfl) (by kernel_rfl) (by kernel_rfl) (fun _ _ _ h => h) (yields_of (by rfl) (fun w' _ => ?_)) inferInstance ?_
                rotate_left
                · (go_simp; try with_reducible rfl)
                try simp only [Act.put, sA]; try simp only [sB, sC]
                refine' takeH (i := 1) (v := _) rfl (by kernel_rfl) (by kernel_rfl) (by kernel_rfl) (fun _ _ _ h => h) (yields_of (by rfl) (fun w' _ => ?_)) inferInstance ?_
                rotate_left
                · (go_simp; try with_reducible rfl)
                try simp only [Act.put, sA]; try simp only [sB, sC]
                refine' takeH (i := 2) (v := _) rfl (by kernel_rfl) (by kernel_rfl) (by kernel_rfl) (fun _ _ _ h => h) (yields_of (by rfl) (fun w' _ => ?_)) inferInstance ?_
                rotate_left
                · (go_simp; try with_reducible rfl)
                try simp only [Act.put, sA]; try simp only [sB, sC]
                refine' takeH (i := 3) (v := _) rfl (by kernel_rfl) (by kernel_rfl) (by kernel_rfl) (fun _ _ _ h => h) (yields_of (by rfl) (fun w' _ => ?_)) inferInstance ?_
                rotate_left
                · (go_simp; try with_reducible rfl)
                try simp only [Act.put, sA]; try simp only [sB, sC]
                refine' takeH (i := 4) (v := _) rfl (by kernel_rfl) (by kernel_rfl) (by kernel_rfl) (fun _ _ _ h => h) (yields_of (by rfl) (fun w' _ => ?_)) inferInstance ?_
                rotate_left
                · (go_simp; try with_reducible rfl)
                try simp only [Act.put, sA]; try simp only [sB, sC]
                try simp only [HG.out]
                try simp only [HSE.out]
                refine' takeH (i := 5) (v := _) rfl (by kernel_rfl) (by kernel_rfl) (by kernel_rfl) (fun _ _ _ h => h) (yields_of (by rfl) (fun w' _ => ?_)) inferInstance ?_
                rotate_left
                · (go_simp; try with_reducible rfl)
                try simp only [Act.put, sA]; try simp only [sB, sC]
                refine takeH (i := 6) (v := undef) rfl (by kernel_rfl) (by kernel_rfl) (by kernel_rfl) (fun _ _ _ h => h) (Or.inr ⟨by rfl, rfl⟩) inferInstance ?_
                try simp only [Act.put, sA]; try simp only [sB, sC]
                refine takeH (i := 7) (v := undef) rfl (by kernel_rfl) (by kernel_rfl) (by kernel_rfl) (fun _ _ _ h => h) (Or.inr ⟨by rfl, rfl⟩) inferInstance ?_
                try simp only [Act.put, sA]; try simp only [sB, sC]
                refine takeH (i := 8) (v := undef) rfl (by kernel_rfl) (by kernel_rfl) (by kernel_rfl) (fun _ _ _ h => h) (Or.inr ⟨by rfl, rfl⟩) inferInstance ?_
                try simp only [Act.put, sA]; try simp only [sB, sC]
                refine takeH (i := 9) (v := undef) rfl (by kernel_rfl) (by kernel_rfl) (by kernel_rfl) (fun _ _ _ h => h) (Or.inr ⟨by rfl, rfl⟩) inferInstance ?_
                try simp only [Act.put, sA]; try simp only [sB, sC]
                refine takeH (i := 10) (v := undef) rfl (by kernel_rfl) (by kernel_rfl) (by kernel_rfl) (fun _ _ _ h => h) (Or.inr ⟨by rfl, rfl⟩) inferInstance ?_
                try simp only [Act.put, sA]; try simp only [sB, sC]
                refine takeH (i := 11) (v := undef) rfl (by kernel_rfl) (by kernel_rfl) (by kernel_rfl) (fun _ _ _ h => h) (Or.inr ⟨by rfl, rfl⟩) inferInstance ?_
                try simp only [Act.put, sA]; try simp only [sB, sC]
                refine takeH (i := 12) (v := undef) rfl (by kernel_rfl) (by kernel_rfl) (by kernel_rfl) (fun _ _ _ h => h) (Or.inr ⟨by rfl, rfl⟩) inferInstance ?_
                try simp only [Act.put, sA]; try simp only [sB, sC]
                refine takeH (i := 13) (v := undef) rfl (by kernel_rfl) (by kernel_rfl) (by kernel_rfl) (fun _ _ _ h => h) (Or.inr ⟨by rfl, rfl⟩) inferInstance ?_
                try simp only [Act.put, sA]; try simp only [sB, sC]
                try simp only [HG.out]
                try simp only [HSE.out]
                refine' takeH (i := 14) (v := _) rfl (by kernel_rfl) (by kernel_rfl) (by kernel_rfl) (fun _ _ _ h => h) (yields_of (by rfl) (fun w' _ => ?_)) inferInstance ?_
                rotate_left
                · (go_simp; try with_reducible rfl)
                try simp only [Act.put, sA]; try simp only [sB, sC]
                refine wpAnyH_done (by kernel_rfl) ?_ _
                go_wp2_with (first | go_skip | ((with_reducible apply wpl_box_agg); (exact rfl); intro z wz _ _ _) | ((with_reducible apply wpl_box_int); (exact rfl); intro z wz _ _ _) | ((with_reducible apply wpl_box_slice); (exact rfl); intro z wz _ _ _) | ((with_reducible apply wpl_box_str); (exact rfl); intro z wz _ _ _) | ((with_reducible apply wpl_box_bool); (exact rfl); intro z wz _ _ _) | ((with_reducible apply wpl_box_ptr); (exact rfl); intro z wz _ _ _) | ((with_reducible apply (wpl_guard (op := .slice _ _ none none none))); (exact rfl)) | ((with_reducible apply (wpl_guard (op := .convert _ _ _))); (exact rfl)) | ((with_reducible apply wpl_loadrow); (exact rfl); infer_instance; infer_instance; (first | (with_reducible assumption) | (with_reducible exact H32.size _) | kernel_rfl)) | ((with_reducible apply wpl_loadcellN); (exact rfl); infer_instance; (exact rfl)))
                go_ret2
                rw [HW2.out]
                exact ⟨none, 0, 0, rfl, rfl, Nat.le_refl _, ⟨Rd.nil _ _⟩, ⟨fun ad e => by cases e⟩, stepN⟩
              · have hgtI : ¬ (nn : Int) < (pn : Int) := by omega
                have HG : Hid (decide ((nn : Int) < (pn : Int)) = false) := Lib.hid (decide_eq_false hgtI)
                have hpc : pn ≤ cL := by omega
                obtain ⟨tk, htk⟩ : ∃ tk, tk = b.take pn := ⟨_, rfl⟩
                have htl : tk.length = pn := by rw [htk, List.length_take, HBL.out]; omega
                have hLt : HR w7 L (bs tk) := ⟨by
                  have h := (HRL.out.later n7.out).take pn
                  rwa [bs, ← List.map_take, ← htk] at h⟩
                have HTK := Lib.hid htk
                clear htk
                by_cases heq : tk = pk
                · have HW2 : Hid (W = (bb, N)) := Lib.hid (by
                    rw [HW.out, wholeS, HU3.out]
                    refine if_pos ?_
                    show prefB b pk = true
                    rw [prefB, decide_eq_true (by rw [HPL.out, HBL.out]; omega), HPL.out, ← HTK.out, decide_eq_true heq]
                    rfl)
                  have HSE : Hid (((strL tk).toList == (strL pk).toList) = true) := Lib.hid (by rw [heq]; simp)
                  have hpl := HPL.out
                  clear HU3 heq
                  go_wp2_with (first | go_skip | ((with_reducible apply wpl_box_agg); (exact rfl); intro z wz _ _ _) | ((with_reducible apply wpl_box_int); (exact rfl); intro z wz _ _ _) | ((with_reducible apply wpl_box_slice); (exact rfl); intro z wz _ _ _) | ((with_reducible apply wpl_box_str); (exact rfl); intro z wz _ _ _) | ((with_reducible apply wpl_box_bool); (exact rfl); intro z wz _ _ _) | ((with_reducible apply wpl_box_ptr); (exact rfl); intro z wz _ _ _) | ((with_reducible apply (wpl_guard (op := .slice _ _ none none none))); (exact rfl)) | ((with_reducible apply (wpl_guard (op := .convert _ _ _))); (exact rfl)) | ((with_reducible apply wpl_loadrow); (exact rfl); infer_instance; infer_instance; (first | (with_reducible assumption) | (with_reducible exact H32.size _) | kernel_rfl)) | ((with_reducible apply wpl_loadcellN); (exact rfl); infer_instance; (exact rfl)))
                  refine wp_region_N (nowhere) (by kernel_rfl) (fun wd _ _ => ?_)
                  refine' takeH (i := 0) (v := _) rfl (by kernel_rfl) (by kernel_rfl) (by kernel_rfl) (fun _ _ _ h => h) (yields_of (by rfl) (fun w' _ => ?_)) inferInstance ?_
                  rotate_left
                  · (go_simp; try with_reducible rfl)
                  try simp only [Act.put, sA]; try simp only [sB, sC]
                  refine' takeH (i := 1) (v := _) rfl (by kernel_rfl) (by kernel_rfl) (by kernel_rfl) (fun _ _ _ h => h) (yields_of (by rfl) (fun w' _ => ?_)) inferInstance ?_
                  rotate_left
                  · (go_simp; try with_reducible rfl)
                  try simp only [Act.put, sA]; try simp only [sB, sC]
                  refine' takeH (i := 2) (v := _) rfl (by kernel_rfl) (by kernel_rfl) (by kernel_rfl) (fun _ _ _ h => h) (yields_of (by rfl) (fun w' _ => ?_)) inferInstance ?_
                  rotate_left
                  · (go_simp; try with_reducible rfl)
                  try simp only [Act.put, sA]; try simp only [sB, sC]
                  refine' takeH (i := 3) (v := _) rfl (by kernel_rfl) (by kernel_rfl) (by kernel_rfl) (fun _ _ _ h => h) (yields_of (by rfl) (fun w' _ => ?_)) inferInstance ?_
                  rotate_left
                  · (go_simp; try with_reducible rfl)
                  try simp only [Act.put, sA]; try simp only [sB, sC]
                  refine' takeH (i := 4) (v := _) rfl (by kernel_rfl) (by kernel_rfl) (by kernel_rfl) (fun _ _ _ h => h) (yields_of (by rfl) (fun w' _ => ?_)) inferInstance ?_
                  rotate_left
                  · (go_simp; try with_reducible rfl)
                  try simp only [Act.put, sA]; try simp only [sB, sC]
                  try simp only [HG.out]
                  try simp only [HSE.out]
                  refine' takeH (i := 5) (v := _) rfl (by kernel_rfl) (by kernel_rfl) (by kernel_rfl) (fun _ _ _ h => h) (yields_of (by rfl) (fun w' _ => ?_)) inferInstance ?_
                  rotate_left
                  · (go_simp; try with_reducible rfl)
                  try simp only [Act.put, sA]; try simp only [sB, sC]
                  refine' takeH (i := 6) (v := _) rfl (by kernel_rfl) (by kernel_rfl) (by kernel_rfl) (fun _ _ _ h => h) (yields_of (by rfl) (fun w' _ => ?_)) inferInstance ?_
                  rotate_left
                  · (go_simp; try with_reducible rfl)
                  try simp only [Act.put, sA]; try simp only [sB, sC]
                  refine' takeH (i := 7) (v := _) rfl (by kernel_rfl) (by kernel_rfl) (by kernel_rfl) (fun _ _ _ h => h) (yields_of (by rfl) (fun w' _ => ?_)) inferInstance ?_
                  rotate_left
                  · (go_simp; try with_reducible rfl)
                  try simp only [Act.put, sA]; try simp only [sB, sC]
                  refine' takeH (i := 8) (v := _) rfl (by kernel_rfl) (by kernel_rfl) (by kernel_rfl) (fun _ _ _ h => h) (yields_of (by rfl) (fun w' _ => ?_)) inferInstance ?_
                  rotate_left
                  · (go_simp; try with_reducible rfl)
                  try simp only [Act.put, sA]; try simp only [sB, sC]
                  refine' takeH (i := 9) (v := _) rfl (by kernel_rfl) (by kernel_rfl) (by kernel_rfl) (fun _ _ _ h => h) (yields_of (by rfl) (fun w' _ => ?_)) inferInstance ?_
                  rotate_left
                  · (first | ((with_reducible apply ev_sl_lh); (exact rfl); (exact rfl); (exact rfl); infer_instance; (first | (with_reducible assumption) | omega); (first | (with_reducible assumption) | omega)) | ((with_reducible apply ev_sl_h); (exact rfl); (exact rfl); infer_instance; (first | (with_reducible assumption) | omega)) | ((with_reducible apply ev_sl_l); (exact rfl); (exact rfl); infer_instance; (first | (with_reducible assumption) | omega)) | (go_simp; try with_reducible rfl))
                  try simp only [Act.put, sA]; try simp only [sB, sC]
                  refine' takeH (i := 10) (v := _) rfl (by kernel_rfl) (by kernel_rfl) (by kernel_rfl) (fun _ _ _ h => h) (yields_of (by rfl) (fun w' _ => ?_)) inferInstance ?_
                  rotate_left
                  · (first | ((with_reducible apply ev_conv); (exact rfl); infer_instance; (first | (with_reducible assumption) | (focus (simp; done)) | omega); (exact Try.underlying22); (exact Try.underlying5); (exact Try.underlying9)) | (go_simp; try with_reducible rfl))
                  try simp only [Act.put, sA]; try simp only [sB, sC]
                  refine' takeH (i := 11) (v := _) rfl (by kernel_rfl) (by kernel_rfl) (by kernel_rfl) (fun _ _ _ h => h) (yields_of (by rfl) (fun w' _ => ?_)) inferInstance ?_
                  rotate_left
                  · (go_simp; try with_reducible rfl)
                  try simp only [Act.put, sA]; try simp only [sB, sC]
                  refine' takeH (i := 12) (v := _) rfl (by kernel_rfl) (by kernel_rfl) (by kernel_rfl) (fun _ _ _ h => h) (yields_of (by rfl) (fun w' _ => ?_)) inferInstance ?_
                  rotate_left
                  · (first | ((with_reducible apply ev_conv); (exact rfl); infer_instance; (first | (with_reducible assumption) | (focus (simp; done)) | omega); (exact Try.underlying22); (exact Try.underlying5); (exact Try.underlying9)) | (go_simp; try with_reducible rfl))
                  try simp only [Act.put, sA]; try simp only [sB, sC]
                  refine' takeH (i := 13) (v := _) rfl (by kernel_rfl) (by kernel_rfl) (by kernel_rfl) (fun _ _ _ h => h) (yields_of (by rfl) (fun w' _ => ?_)) inferInstance ?_
                  rotate_left
                  · (go_simp; try with_reducible rfl)
                  try simp only [Act.put, sA]; try simp only [sB, sC]
                  try simp only [HG.out]
                  try simp only [HSE.out]
                  refine' takeH (i := 14) (v := _) rfl (by kernel_rfl) (by kernel_rfl) (by kernel_rfl) (fun _ _ _ h => h) (yields_of (by rfl) (fun w' _ => ?_)) inferInstance ?_
                  rotate_left
                  · (go_simp; try with_reducible rfl)
                  try simp only [Act.put, sA]; try simp only [sB, sC]
                  refine wpAnyH_done (by kernel_rfl) ?_ _
                  go_wp2_with (first | go_skip | ((with_reducible apply wpl_box_agg); (exact rfl); intro z wz _ _ _) | ((with_reducible apply wpl_box_int); (exact rfl); intro z wz _ _ _) | ((with_reducible apply wpl_box_slice); (exact rfl); intro z wz _ _ _) | ((with_reducible apply wpl_box_str); (exact rfl); intro z wz _ _ _) | ((with_reducible apply wpl_box_bool); (exact rfl); intro z wz _ _ _) | ((with_reducible apply wpl_box_ptr); (exact rfl); intro z wz _ _ _) | ((with_reducible apply (wpl_guard (op := .slice _ _ none none none))); (exact rfl)) | ((with_reducible apply (wpl_guard (op := .convert _ _ _))); (exact rfl)) | ((with_reducible apply wpl_loadrow); (exact rfl); infer_instance; infer_instance; (first | (with_reducible assumption) | (with_reducible exact H32.size _) | kernel_rfl)) | ((with_reducible apply wpl_loadcellN); (exact rfl); infer_instance; (exact rfl)))
                  go_ret2
                  rw [HW2.out]
                  exact ⟨B, m, dd, rfl, HM3.out, hcapB, inferInstance, nB, stepN⟩
                · have HW2 : Hid (W = ([], 0)) := Lib.hid (by
                    rw [HW.out]
                    refine wholeS_no ?_
                    rw [HU3.out]
                    show prefB b pk = false
                    rw [prefB, HPL.out, ← HTK.out, decide_eq_false heq, Bool.and_false])
                  have HSE : Hid (((strL tk).toList == (strL pk).toList) = false) := Lib.hid (by
                    rw [strL_list, strL_list]
                    simpa using heq)
                  have hpl := HPL.out
                  clear HU3 heq
                  go_wp2_with (first | go_skip | ((with_reducible apply wpl_box_agg); (exact rfl); intro z wz _ _ _) | ((with_reducible apply wpl_box_int); (exact rfl); intro z wz _ _ _) | ((with_reducible apply wpl_box_slice); (exact rfl); intro z wz _ _ _) | ((with_reducible apply wpl_box_str); (exact rfl); intro z wz _ _ _) | ((with_reducible apply wpl_box_bool); (exact rfl); intro z wz _ _ _) | ((with_reducible apply wpl_box_ptr); (exact rfl); intro z wz _ _ _) | ((with_reducible apply (wpl_guard (op := .slice _ _ none none none))); (exact rfl)) | ((with_reducible apply (wpl_guard (op := .convert _ _ _))); (exact rfl)) | ((with_reducible apply wpl_loadrow); (exact rfl); infer_instance; infer_instance; (first | (with_reducible assumption) | (with_reducible exact H32.size _) | kernel_rfl)) | ((with_reducible apply wpl_loadcellN); (exact rfl); infer_instance; (exact rfl)))
                  refine wp_region_N (nowhere) (by kernel_rfl) (fun wd _ _ => ?_)
                  refine' takeH (i := 0) (v := _) rfl (by kernel_rfl) (by kernel_rfl) (by kernel_rfl) (fun _ _ _ h => h) (yields_of (by rfl) (fun w' _ => ?_)) inferInstance ?_
                  rotate_left
                  · (go_simp; try with_reducible rfl)
                  try simp only [Act.put, sA]; try simp only [sB, sC]
                  refine' takeH (i := 1) (v := _) rfl (by kernel_rfl) (by kernel_rfl) (by kernel_rfl) (fun _ _ _ h => h) (yields_of (by rfl) (fun w' _ => ?_)) inferInstance ?_
                  rotate_left
                  · (go_simp; try with_reducible rfl)
                  try simp only [Act.put, sA]; try simp only [sB, sC]
                  refine' takeH (i := 2) (v := _) rfl (by kernel_rfl) (by kernel_rfl) (by kernel_rfl) (fun _ _ _ h => h) (yields_of (by rfl) (fun w' _ => ?_)) inferInstance ?_
                  rotate_left
                  · (go_simp; try with_reducible rfl)
                  try simp only [Act.put, sA]; try simp only [sB, sC]
                  refine' takeH (i := 3) (v := _) rfl (by kernel_rfl) (by kernel_rfl) (by kernel_rfl) (fun _ _ _ h => h) (yields_of (by rfl) (fun w' _ => ?_)) inferInstance ?_
                  rotate_left
                  · (go_simp; try with_reducible rfl)
                  try simp only [Act.put, sA]; try simp only [sB, sC]
                  refine' takeH (i := 4) (v := _) rfl (by kernel_rfl) (by kernel_rfl) (by kernel_rfl) (fun _ _ _ h => h) (yields_of (by rfl) (fun w' _ => ?_)) inferInstance ?_
                  rotate_left
                  · (go_simp; try with_reducible rfl)
                  try simp only [Act.put, sA]; try simp only [sB, sC]
                  try simp only [HG.out]
                  try simp only [HSE.out]
                  refine' takeH (i := 5) (v := _) rfl (by kernel_rfl) (by kernel_rfl) (by kernel_rfl) (fun _ _ _ h => h) (yields_of (by rfl) (fun w' _ => ?_)) inferInstance ?_
                  rotate_left
                  · (go_simp; try with_reducible rfl)
                  try simp only [Act.put, sA]; try simp only [sB, sC]
                  refine' takeH (i := 6) (v := _) rfl (by kernel_rfl) (by kernel_rfl) (by kernel_rfl) (fun _ _ _ h => h) (yields_of (by rfl) (fun w' _ => ?_)) inferInstance ?_
                  rotate_left
                  · (go_simp; try with_reducible rfl)
                  try simp only [Act.put, sA]; try simp only [sB, sC]
                  refine' takeH (i := 7) (v := _) rfl (by kernel_rfl) (by kernel_rfl) (by kernel_rfl) (fun _ _ _ h => h) (yields_of (by rfl) (fun w' _ => ?_)) inferInstance ?_
                  rotate_left
                  · (go_simp; try with_reducible rfl)
                  try simp only [Act.put, sA]; try simp only [sB, sC]
                  refine' takeH (i := 8) (v := _) rfl (by kernel_rfl) (by kernel_rfl) (by kernel_rfl) (fun _ _ _ h => h) (yields_of (by rfl) (fun w' _ => ?_)) inferInstance ?_
                  rotate_left
                  · (go_simp; try with_reducible rfl)
                  try simp only [Act.put, sA]; try simp only [sB, sC]
                  refine' takeH (i := 9) (v := _) rfl (by kernel_rfl) (by kernel_rfl) (by kernel_rfl) (fun _ _ _ h => h) (yields_of (by rfl) (fun w' _ => ?_)) inferInstance ?_
                  rotate_left
                  · (first | ((with_reducible apply ev_sl_lh); (exact rfl); (exact rfl); (exact rfl); infer_instance; (first | (with_reducible assumption) | omega); (first | (with_reducible assumption) | omega)) | ((with_reducible apply ev_sl_h); (exact rfl); (exact rfl); infer_instance; (first | (with_reducible assumption) | omega)) | ((with_reducible apply ev_sl_l); (exact rfl); (exact rfl); infer_instance; (first | (with_reducible assumption) | omega)) | (go_simp; try with_reducible rfl))
                  try simp only [Act.put, sA]; try simp only [sB, sC]
                  refine' takeH (i := 10) (v := _) rfl (by kernel_rfl) (by kernel_rfl) (by kernel_rfl) (fun _ _ _ h => h) (yields_of (by rfl) (fun w' _ => ?_)) inferInstance ?_
                  rotate_left
                  · (first | ((with_reducible apply ev_conv); (exact rfl); infer_instance; (first | (with_reducible assumption) | (focus (simp; done)) | omega); (exact Try.underlying22); (exact Try.underlying5); (exact Try.underlying9)) | (go_simp; try with_reducible rfl))
                  try simp only [Act.put, sA]; try simp only [sB, sC]
                  refine' takeH (i := 11) (v := _) rfl (by kernel_rfl) (by kernel_rfl) (by kernel_rfl) (fun _ _ _ h => h) (yields_of (by rfl) (fun w' _ => ?_)) inferInstance ?_
                  rotate_left
                  · (go_simp; try with_reducible rfl)
                  try simp only [Act.put, sA]; try simp only [sB, sC]
                  refine' takeH (i := 12) (v := _) rfl (by kernel_rfl) (by kernel_rfl) (by kernel_rfl) (fun _ _ _ h => h) (yields_of (by rfl) (fun w' _ => ?_)) inferInstance ?_
                  rotate_left
                  · (first | ((with_reducible apply ev_conv); (exact rfl); infer_instance; (first | (with_reducible assumption) | (focus (simp; done)) | omega); (exact Try.underlying22); (exact Try.underlying5); (exact Try.underlying9)) | (go_simp; try with_reducible rfl))
                  try simp only [Act.put, sA]; try simp only [sB, sC]
                  refine' takeH (i := 13) (v := _) rfl (by kernel_rfl) (by kernel_rfl) (by kernel_rfl) (fun _ _ _ h => h) (yields_of (by rfl) (fun w' _ => ?_)) inferInstance ?_
                  rotate_left
                  · (go_simp; try with_reducible rfl)
                  try simp only [Act.put, sA]; try simp only [sB, sC]
                  try simp only [HG.out]
                  try simp only [HSE.out]
                  refine' takeH (i := 14) (v := _) rfl (by kernel_rfl) (by kernel_rfl) (by kernel_rfl) (fun _ _ _ h => h) (yields_of (by rfl) (fun w' _ => ?_)) inferInstance ?_
                  rotate_left
                  · (go_simp; try with_reducible rfl)
                  try simp only [Act.put, sA]; try simp only [sB, sC]
                  refine wpAnyH_done (by kernel_rfl) ?_ _
                  go_wp2_with (first | go_skip | ((with_reducible apply wpl_box_agg); (exact rfl); intro z wz _ _ _) | ((with_reducible apply wpl_box_int); (exact rfl); intro z wz _ _ _) | ((with_reducible apply wpl_box_slice); (exact rfl); intro z wz _ _ _) | ((with_reducible apply wpl_box_str); (exact rfl); intro z wz _ _ _) | ((with_reducible apply wpl_box_bool); (exact rfl); intro z wz _ _ _) | ((with_reducible apply wpl_box_ptr); (exact rfl); intro z wz _ _ _) | ((with_reducible apply (wpl_guard (op := .slice _ _ none none none))); (exact rfl)) | ((with_reducible apply (wpl_guard (op := .convert _ _ _))); (exact rfl)) | ((with_reducible apply wpl_loadrow); (exact rfl); infer_instance; infer_instance; (first | (with_reducible assumption) | (with_reducible exact H32.size _) | kernel_rfl)) | ((with_reducible apply wpl_loadcellN); (exact rfl); infer_instance; (exact rfl)))
                  go_ret2
                  rw [HW2.out]
                  exact ⟨none, 0, 0, rfl, rfl, Nat.le_refl _, ⟨Rd.nil _ _⟩, ⟨fun ad e => by cases e⟩, stepN⟩
end Go.Proofs.Ytegdihpnefoolaa
