/- BkF -/
import Derived.Test.YtegdihpnefoolaaTjBkC
import Derived.Test.YtegdihpnefoolaaTjBkA
open Go Go.RowKit
namespace Go.Proofs.Ytegdihpnefoolaa
theorem hr_plain {w : World} {A : Option Addr} {b : List UInt8} (h : Rd w A (bs b)) (h0 : 0 < b.length) : ∃ z o, A = some ⟨z, o, none⟩ := by
  obtain ⟨ad, rfl, _⟩ := h.lt (by rw [bs_length]; exact h0)
  exact ⟨_, _, congrArg some (rd_plain h h0)⟩
theorem HR.takeB {w : World} {A : Option Addr} {xs : List UInt8} (h : HR w A (bs xs)) (k : Nat) : HR w A (bs (xs.take k)) := ⟨by
  have h2 := h.out.take k
  rw [bs, ← List.map_take] at h2
  exact h2⟩
set_option maxRecDepth 100000 in
set_option maxHeartbeats 800000 in
theorem oJoinN_calls {A : Option Addr} {n c : Nat} {l : List Row} {w : World} [hr : HR w A (cellsOf l)] (hn : l.length = n) (hcap : n ≤ c) (hrow : RowsOk w l) (hx : Lib.lens (l.map (·.p)) ≤ 140737488355328) (hn47 : n ≤ 140737488355328) :
    Calls Try.prog 86 #[.slice A n c] w fun e w' => ∃ A' n' c', e = .returned (.slice A' n' c') ∧ ((l.map (·.p)).flatten).length = n' ∧ n' ≤ c' ∧ HR w' A' (bs (l.map (·.p)).flatten) ∧ Step nowhere w w' ∧ NewA w A' := by
  have HR1 := Lib.hid hr.out
  have HRW := Lib.hid hrow
  have HX := Lib.hid hx
  have HN := Lib.hid hn
  clear hrow hx hn
  go_enter Try.func86, Try.ntmps86
  go_wp2_with fail
  refine (bJoin_calls A n c l w (by rw [← cellsOf_rows]; exact HR1.out) HN.out hcap HRW.out HX.out hn47).mono ?_
  rintro e w1 ⟨A', n', c', rfl, h1, h2, h3⟩
  go_wp2_with fail
  go_ret
  exact ⟨A', n', c', rfl, h1.out.len, h1.out.le, ⟨h1.out.rd⟩, ⟨h2.out⟩, ⟨h3.out⟩⟩
theorem start_calls (x : Int) (i : Nat) (hx : x = (i : Int)) (hi : i ≤ 1000) (w : World) : Calls Try.prog 58 #[.int .i64 x] w fun e w' => e = .returned (.int .i64 ((80 + i * 8 : Nat) : Int)) ∧ w' = w := by
  subst hx
  go_enter Try.func58, Try.ntmps58
  go_wp2_with fail
  go_ret
  exact ⟨by congr 2 <;> (try omega), rfl⟩
set_option maxRecDepth 100000 in
set_option maxHeartbeats 1600000 in
theorem bkRead_calls {g p N : Nat} {s : FS} (i z : Nat) {w : World} (hF : FlashAt w g p N s) (hN : 96 ≤ N) (hi : i < 2) (hz : z ≤ 512) :
    Calls Try.prog 62 #[.pointer (some ⟨g, 0, none⟩), .int .i64 (i : Int), .int .i64 (z : Int)] w fun e w' => ∃ A c, e = .returned (.slice A z c) ∧ ((bankB s i).take z).length = z ∧ z ≤ c ∧ HR w' A (bs ((bankB s i).take z)) ∧ Step nowhere w w' ∧ NewA w A := by
  have HF := Lib.hid hF
  have hok := Lib.hid hF.ok
  have hiI : (i : Int) < 2 := by omega
  have hlen := bankB_len hF.ok hN i hi
  have hfl0 := bankB_flat hF.ok hN i hi
  obtain ⟨B, hB⟩ : ∃ B, B = bankB s i := ⟨_, rfl⟩
  rw [← hB] at hlen hfl0 ⊢
  have HLE := Lib.hid hlen
  have HFL0 := Lib.hid hfl0
  clear hF hB hlen hfl0
  go_enter Try.func62, Try.ntmps62
  go_wp2_with fail
  go_loopw [7, 11] (fun av iv wr => ∃ (k : Nat) (L : Option Addr) (cL : Nat) (l : List Row), k ≤ 8 ∧ iv = .int .i64 (k : Int) ∧ av = .slice L k cL ∧ Step nowhere w wr ∧ HO wr 22 1 L k cL (cellsOf l) ∧ NewA w L ∧ Hid (RowsIn wr L l) ∧ Hid (l.length = k ∧ l.map (·.p) = (List.range k).map fun j => s.page (80 + i * 8 + j)) ∧ k ≤ cL) (fun _ iv _ => 8 - (intOf iv).toNat)
  case atStart => exact ⟨0, none, 0, [], Nat.zero_le _, rfl, rfl, stepN, own_nil _ _ _, ⟨fun ad e => by cases e⟩, Lib.hid (fun r hr => by cases hr), Lib.hid ⟨rfl, rfl⟩, Nat.le_refl _⟩
  case round =>
    obtain ⟨k, L, cL, l, hk, rfl, rfl, _, hL, hnL, HRI, HLK, hcL⟩ := hrel
    by_cases hlt : k < 8
    · have hltI : (k : Int) < 8 := by omega
      have hj : 80 + i * 8 + k < N := by omega
      have HPL := Lib.hid (FS.page_len hok.out hj)
      go_wp2_with (first | fail)
      refine (start_calls _ i rfl (by omega) _).mono ?_
      rintro e w4 ⟨rfl, hw4⟩
      obtain rfl := hw4.symm
      go_wp2_with (first | fail)
      refine (Read_at g p N s _ (80 + i * 8 + k) _ (HF.out.calm (stepN (w0 := w)).chg) (by first | rfl | omega | go_num) hj).mono ?_
      rintro e w5 ⟨A, c, rfl, hA, _, hnA⟩
      have kbr := run_row1 A 64 c
      have hk1 : k + 1 ≤ 1000000000 := by omega
      have oLA : OffA (rowOf L) A := inferInstance
      go_wp2_with (first | ((with_reducible apply (stop_dst (dst := some 25))); (try simp only [Act.put, sA, sB, sC]); ((with_reducible apply (wpl_bslice (dst := some 25))); (exact kbr _); intro zr wb _ _ _)) | ((with_reducible apply (wpl_appendR (α := Row))); (exact rfl); (exact rfl); infer_instance; infer_instance; (exact rowRow (r := ⟨A, c, s.page (80 + i * 8 + k)⟩) HPL.out inferInstance); (exact rfl); (exact rfl); (exact hk1); (decide); (decide); intro L2 cL2 wa _ _ _ hcap2))
      have g2 := (inferInstance : Grew wb L L2).out
      have r1 : RowsIn wb L (l ++ [⟨A, c, s.page (80 + i * 8 + k)⟩]) := (HRI.out.calm (stepN (w0 := wr) (w := wb)).chg).snoc (inferInstance : HR wb A (bs (s.page (80 + i * 8 + k)))).out (fun ad e => ⟨(inferInstance : HO wb 5 1 A 64 c (bs (s.page (80 + i * 8 + k)))).out.lt e, oLA.out ad e⟩)
      have r2 := Lib.hid (r1.next (inferInstance : Step (rowOf L) wb wa).chg g2)
      have e1 : (l ++ [(⟨A, c, s.page (80 + i * 8 + k)⟩ : Row)]).length = k + 1 ∧ (l ++ [(⟨A, c, s.page (80 + i * 8 + k)⟩ : Row)]).map (·.p) = (List.range (k + 1)).map fun j => s.page (80 + i * 8 + j) := by
        rw [List.length_append, List.map_append, HLK.out.1, HLK.out.2, List.range_succ, List.map_append]
        exact ⟨rfl, rfl⟩
      have E1 := Lib.hid e1
      clear g2 r1 e1
      exact ⟨⟨k + 1, L2, cL2, l ++ [⟨A, c, s.page (80 + i * 8 + k)⟩], by omega, by go_num, rfl, stepN, inferInstance, inferInstance, r2, E1, hcap2⟩, by simp [intOf]; omega⟩
    · have hltI : ¬ (k : Int) < 8 := by omega
      obtain rfl : k = 8 := by omega
      have HFL : Hid ((l.map (·.p)).flatten = B) := Lib.hid (by rw [HLK.out.2]; exact HFL0.out)
      go_wp2_with (first | fail)
      refine (oJoinN_calls (l := l) HLK.out.1 hcL (fun r hr => (HRI.out r hr).1) (by rw [lens_flat, HFL.out, HLE.out]; decide) (by decide)).mono ?_
      rw [HFL.out]
      rintro e w5 ⟨A', n', c', rfl, h1, h2, hr5, _, hn5⟩
      have hnw : NewA w A' := NewA.monoS hn5
      have hzc : z ≤ c' := by have := HLE.out; omega
      go_wp2_with (first | ((with_reducible apply (wpl_sl_h (m := z))); (exact rfl); (exact rfl); infer_instance; (exact hzc)))
      go_ret
      exact ⟨A', c', rfl, by rw [List.length_take, HLE.out]; omega, hzc, HR.takeB hr5 z, stepN, hnw⟩
set_option maxRecDepth 100000 in
set_option maxHeartbeats 1600000 in
theorem bkWrite_calls {g p N n c : Nat} {A : Option Addr} {s : FS} {b : List UInt8} (x : Int) (first : Nat) (hx : x = (first : Int)) {w : World} (hF : FlashAt w g p N s) [ho : HR w A (bs b)] (hl : b.length = n) (hc : n ≤ c) (hn : n ≤ 1000000) (hz : Apart (Two g p) A (bs b)) (hf : first ≤ 1000000) :
    Calls Try.prog 57 #[.pointer (some ⟨g, 0, none⟩), .int .i64 x, .slice A n c] w fun e w' => e = .returned (.int .i64 ((layS N s first b).1 : Int)) ∧ FlashAt w' g p N (layS N s first b).2 ∧ Step (Two g p) w w' := by
  subst hx
  obtain ⟨many, hmany⟩ : ∃ many, many = manyC n := ⟨_, rfl⟩
  have hm2 : many ≤ 15626 := by rw [hmany]; unfold manyC; omega
  obtain ⟨Wr, hWr⟩ : ∃ Wr, Wr = layS N s first b := ⟨_, rfl⟩
  have HWE : Hid (∀ k, k ≤ many → (eraseK N s first k).1 ≠ 0 → Wr = eraseK N s first k) := Lib.hid (fun k hk h => by rw [hWr]; exact lay_erase (by rw [hl, ← hmany]; exact hk) h)
  have HWP : Hid (∀ k, k ≤ many → (progA N (eraseK N s first many) first b k).1 ≠ 0 → Wr = progA N (eraseK N s first many) first b k) := Lib.hid (fun k hk h => by
    rw [hWr]
    have e : manyC b.length = many := by rw [hl, hmany]
    have := lay_prog (N := N) (s := s) (first := first) (k := k) (b := b) (by rw [e]; exact hk) (by rw [e]; exact h)
    rw [e] at this
    exact this)
  have HWF : Hid (Wr = progA N (eraseK N s first many) first b many) := Lib.hid (by rw [hWr, layS, hl, ← hmany])
  have hpl := hr_plain ho.out
  have HPA : Hid (0 < n → ∃ z o, A = some ⟨z, o, none⟩) := Lib.hid (fun h => hpl (by omega))
  have HPB := Lib.hid hpl
  have HZ : Hid (∀ ad, A = some ad → 0 < n → ¬ Two g p ad.block) := Lib.hid (fun ad e h => hz (by intro h2; have := congrArg List.length h2; rw [bs_length, hl] at this; simp at this; omega) ad e)
  have HF := Lib.hid hF
  have HLL := Lib.hid hl
  have HMC := Lib.hid hmany
  have hlts := hF.lts
  have oZ : OffR (Two g p) A (bs b) := ⟨hz⟩
  rw [← hWr]
  clear hF hl hmany hWr hpl
  go_enter Try.func57, Try.ntmps57
  go_wp2_with (first | ((with_reducible apply wpl_loadrow); (exact rfl); infer_instance; infer_instance; (first | (with_reducible assumption) | (with_reducible exact H32.size _) | (with_reducible exact enc_sz _ rfl) | kernel_rfl)) | ((with_reducible apply wpl_loadcellN); (exact rfl); infer_instance; (exact rfl)))
  refine (chunk_calls A n c w).mono ?_
  rintro e w1 ⟨zs, zn, rfl, hzs, hzn, _⟩
  go_wp2_with (first | ((with_reducible apply wpl_loadrow); (exact rfl); infer_instance; infer_instance; (first | (with_reducible assumption) | (with_reducible exact H32.size _) | (with_reducible exact enc_sz _ rfl) | kernel_rfl)) | ((with_reducible apply wpl_loadcellN); (exact rfl); infer_instance; (exact rfl)))
  refine (collectW_calls HPA.out hn hc hzs hzn).mono ?_
  rw [← HMC.out]
  rintro e w2 ⟨L, cL, rfl, hL, hcL, hnL, _⟩
  have n2 : Nw w w2 := inferInstance
  have hb2 : HR w2 A (bs b) := inferInstance
  have oL : OffR (Two g p) L (chunksW A n many) := ⟨fun _ ad e h => by
    have h1 := hnL.out ad e
    have h2 := (stepN (w0 := w) (w := w1)).chg.size
    rcases h with h | h <;> omega⟩
  go_wp2_with (first | ((with_reducible apply wpl_loadrow); (exact rfl); infer_instance; infer_instance; (first | (with_reducible assumption) | (with_reducible exact H32.size _) | (with_reducible exact enc_sz _ rfl) | kernel_rfl)) | ((with_reducible apply wpl_loadcellN); (exact rfl); infer_instance; (exact rfl)))
  go_loopw [18] (fun iv wr => ∃ k : Nat, k ≤ many ∧ iv = .int .i64 (k : Int) ∧ Step (Two g p) w wr ∧ HR wr L (chunksW A n many) ∧ HR wr A (bs b) ∧ Hid ((eraseK N s first k).1 = 0) ∧ Hid (FlashAt wr g p N (eraseK N s first k).2)) (fun iv _ => many - (intOf iv).toNat)
  case atStart => exact ⟨0, Nat.zero_le _, rfl, ⟨n2.out.mono (fun _ _ h => h.elim)⟩, inferInstance, inferInstance, Lib.hid rfl, Lib.hid (HF.out.calm n2.out)⟩
  case round =>
    obtain ⟨k, hk, rfl, st, hLr, hbr, HE0, HFr⟩ := hrel
    by_cases hlt : k < many
    · have hltI : (k : Int) < many := by omega
      obtain ⟨r, hr⟩ : ∃ r, r = (eraseK N s first k).2.change N ((first + k : Nat) : Int) 64 erD := ⟨_, rfl⟩
      have hr2 : eraseK N s first (k + 1) = r := by rw [hr, eraseK, if_pos HE0.out]
      have HR2 := Lib.hid hr2
      have HR1 := Lib.hid hr
      clear hr hr2
      go_wp2_with (first | ((with_reducible apply wpl_loadrow); (exact rfl); infer_instance; infer_instance; (first | (with_reducible assumption) | (with_reducible exact H32.size _) | (with_reducible exact enc_sz _ rfl) | kernel_rfl)) | ((with_reducible apply wpl_loadcellN); (exact rfl); infer_instance; (exact rfl)))
      refine (Erase_calls g p N _ _ wr HFr.out).mono ?_
      rw [← Int.natCast_add, ← HR1.out]
      rintro e w5 ⟨rfl, h5, c5⟩
      have s5 : Step (Two g p) wr w5 := ⟨c5.out⟩
      have sw5 : Step (Two g p) w w5 := ⟨st.chg.trans c5.out (fun _ _ h => h)⟩
      have H5 := h5
      clear h5 c5
      by_cases hz0 : r.1 = 0
      · have e1 : ((r.1 : Int) != 0) = false := by simp [hz0]
        have HZ0 := Lib.hid hz0
        clear hz0
        go_wp2_with (first | ((with_reducible apply wpl_loadrow); (exact rfl); infer_instance; infer_instance; (first | (with_reducible assumption) | (with_reducible exact H32.size _) | (with_reducible exact enc_sz _ rfl) | kernel_rfl)) | ((with_reducible apply wpl_loadcellN); (exact rfl); infer_instance; (exact rfl)))
        exact ⟨⟨k + 1, by omega, by go_num, sw5, inferInstance, inferInstance, Lib.hid (by rw [HR2.out]; exact HZ0.out), Lib.hid (by rw [HR2.out]; exact H5.out)⟩, by simp [intOf]; omega⟩
      · have e1 : ((r.1 : Int) != 0) = true := by simp [hz0]
        have hwr : Wr = r := by
          have h := HWE.out (k + 1) (by omega) (by rw [HR2.out]; exact hz0)
          rw [HR2.out] at h
          exact h
        have HWR := Lib.hid hwr
        clear hz0 hwr
        go_wp2_with (first | ((with_reducible apply wpl_loadrow); (exact rfl); infer_instance; infer_instance; (first | (with_reducible assumption) | (with_reducible exact H32.size _) | (with_reducible exact enc_sz _ rfl) | kernel_rfl)) | ((with_reducible apply wpl_loadcellN); (exact rfl); infer_instance; (exact rfl)))
        go_ret
        rw [HWR.out]
        exact ⟨rfl, H5.out, sw5⟩
    · have hltI : ¬ (k : Int) < many := by omega
      obtain rfl : k = many := by omega
      obtain ⟨E, hE⟩ : ∃ E, E = eraseK N s first k := ⟨_, rfl⟩
      have HWP2 : Hid (∀ j, j ≤ k → (progA N E first b j).1 ≠ 0 → Wr = progA N E first b j) := Lib.hid (by rw [hE]; exact HWP.out)
      have HWF2 : Hid (Wr = progA N E first b k) := Lib.hid (by rw [hE]; exact HWF.out)
      rw [← hE] at HE0 HFr
      clear hE HWE HWP HWF
      go_wp2_with (first | ((with_reducible apply wpl_loadrow); (exact rfl); infer_instance; infer_instance; (first | (with_reducible assumption) | (with_reducible exact H32.size _) | (with_reducible exact enc_sz _ rfl) | kernel_rfl)) | ((with_reducible apply wpl_loadcellN); (exact rfl); infer_instance; (exact rfl)))
      go_loopw [32] (fun iv wt => ∃ j : Nat, j ≤ k ∧ iv = .int .i64 (j : Int) ∧ Step (Two g p) w wt ∧ HR wt L (chunksW A n k) ∧ HR wt A (bs b) ∧ Hid ((progA N E first b j).1 = 0) ∧ Hid (FlashAt wt g p N (progA N E first b j).2)) (fun iv _ => k - (intOf iv).toNat)
      case atStart => exact ⟨0, Nat.zero_le _, rfl, st, hLr, hbr, HE0, HFr⟩
      case round =>
        obtain ⟨j, hj, rfl, st2, hLt, hbt, HP0, HFt⟩ := hrel
        by_cases hlt2 : j < k
        · have hlt2I : (j : Int) < k := by omega
          obtain ⟨r, hr⟩ : ∃ r, r = (progA N E first b j).2.change N ((first + j : Nat) : Int) (pieceB b j).length (prD (pieceB b j)) := ⟨_, rfl⟩
          have hr2 : progA N E first b (j + 1) = r := by rw [hr, progA, if_pos HP0.out]
          have HR2 := Lib.hid hr2
          have HR1 := Lib.hid hr
          have hpl : (pieceB b j).length = chunkC n j := by rw [pieceB_len, HLL.out]
          have HPL := Lib.hid hpl
          have hget := chunksW_get (A := A) (len := n) hlt2
          have hvl : 0 < (chunksW A n k).length := by rw [chunksW_len]; omega
          have hcq : chunkC n j ≤ 64 := by rw [chunkC_eq]; omega
          have hn0 : 0 < n := by
            have := HMC.out
            unfold manyC at this
            omega
          clear hr hr2 hpl
          go_wp2_with (first | ((with_reducible apply (wpl_index1 (k := j))); (exact rfl); (exact rfl); infer_instance; (exact hLt); (exact hvl); (exact hlt2)) | ((with_reducible apply (wpl_load1 (k := j))); (exact rfl); (exact hLt); infer_instance; (exact hget)) | ((with_reducible apply wpl_loadrow); (exact rfl); infer_instance; infer_instance; (first | (with_reducible assumption) | (with_reducible exact H32.size _) | (with_reducible exact enc_sz _ rfl) | kernel_rfl)) | ((with_reducible apply wpl_loadcellN); (exact rfl); infer_instance; (exact rfl)))
          refine (Program_calls g p N _ _ (chunkA A j) (chunkC n j) (chunkC n j) (pieceB b j) wr HFt.out (rd_pieceW HPB.out hbt.out j) HPL.out (fun _ ad e h => by
            obtain ⟨ad0, e0, e1⟩ := chunkA_block e
            rw [e1] at h
            exact HZ.out ad0 e0 hn0 h) (by omega)).mono ?_
          rw [← Int.natCast_add, ← HPL.out, ← HR1.out]
          rintro e w5 ⟨rfl, h5, c5⟩
          have s5 : Step (Two g p) wr w5 := ⟨c5.out⟩
          have sw5 : Step (Two g p) w w5 := ⟨st2.chg.trans c5.out (fun _ _ h => h)⟩
          have H5 := h5
          clear h5 c5
          by_cases hz0 : r.1 = 0
          · have e1 : ((r.1 : Int) != 0) = false := by simp [hz0]
            have HZ0 := Lib.hid hz0
            clear hz0
            go_wp2_with (first | ((with_reducible apply wpl_loadrow); (exact rfl); infer_instance; infer_instance; (first | (with_reducible assumption) | (with_reducible exact H32.size _) | (with_reducible exact enc_sz _ rfl) | kernel_rfl)) | ((with_reducible apply wpl_loadcellN); (exact rfl); infer_instance; (exact rfl)))
            exact ⟨⟨j + 1, by omega, by go_num, sw5, inferInstance, inferInstance, Lib.hid (by rw [HR2.out]; exact HZ0.out), Lib.hid (by rw [HR2.out]; exact H5.out)⟩, by simp [intOf]; omega⟩
          · have e1 : ((r.1 : Int) != 0) = true := by simp [hz0]
            have hwr : Wr = r := by
              have h := HWP2.out (j + 1) (by omega) (by rw [HR2.out]; exact hz0)
              rw [HR2.out] at h
              exact h
            have HWR := Lib.hid hwr
            clear hz0 hwr
            go_wp2_with (first | ((with_reducible apply wpl_loadrow); (exact rfl); infer_instance; infer_instance; (first | (with_reducible assumption) | (with_reducible exact H32.size _) | (with_reducible exact enc_sz _ rfl) | kernel_rfl)) | ((with_reducible apply wpl_loadcellN); (exact rfl); infer_instance; (exact rfl)))
            go_ret
            rw [HWR.out]
            exact ⟨rfl, H5.out, sw5⟩
        · have hlt2I : ¬ (j : Int) < k := by omega
          obtain rfl : j = k := by omega
          go_wp2_with (first | ((with_reducible apply wpl_loadrow); (exact rfl); infer_instance; infer_instance; (first | (with_reducible assumption) | (with_reducible exact H32.size _) | (with_reducible exact enc_sz _ rfl) | kernel_rfl)) | ((with_reducible apply wpl_loadcellN); (exact rfl); infer_instance; (exact rfl)))
          go_ret
          rw [HWF2.out, HP0.out]
          exact ⟨rfl, HFt.out, st2⟩
end Go.Proofs.Ytegdihpnefoolaa
