/- SlH -/
import Derived.Test.YtegdihpnefoolaaTjSlG
open Go Go.RowKit
namespace Go.Proofs.Ytegdihpnefoolaa
def eraseK (N : Nat) (s : FS) (first : Nat) : Nat → Nat × FS
  | 0 => (0, s)
  | k + 1 => if (eraseK N s first k).1 = 0 then (eraseK N s first k).2.change N ((first + k : Nat) : Int) 64 erD else eraseK N s first k
def progK (N : Nat) (r0 : Nat × FS) (first : Nat) (b : List UInt8) (many : Nat) : Nat → Nat × FS
  | 0 => r0
  | k + 1 => if (progK N r0 first b many k).1 = 0 then (progK N r0 first b many k).2.change N ((first + (k + 1) % many : Nat) : Int) (pieceB b ((k + 1) % many)).length (prD (pieceB b ((k + 1) % many))) else progK N r0 first b many k
/-- what laying bytes into pages from one on answers, and leaves -/
def writeS (N : Nat) (s : FS) (first : Nat) (b : List UInt8) : Nat × FS := progK N (eraseK N s first (manyC b.length)) first b (manyC b.length) (manyC b.length)
theorem eraseK_stop {N : Nat} {s : FS} {first k : Nat} (h : (eraseK N s first k).1 ≠ 0) : ∀ j, eraseK N s first (k + j) = eraseK N s first k
  | 0 => rfl
  | j + 1 => by
    have ih := eraseK_stop h j
    show (if (eraseK N s first (k + j)).1 = 0 then _ else eraseK N s first (k + j)) = _
    rw [ih, if_neg h]
theorem progK_stop {N : Nat} {r0 : Nat × FS} {first many k : Nat} {b : List UInt8} (h : (progK N r0 first b many k).1 ≠ 0) : ∀ j, progK N r0 first b many (k + j) = progK N r0 first b many k
  | 0 => rfl
  | j + 1 => by
    have ih := progK_stop h j
    show (if (progK N r0 first b many (k + j)).1 = 0 then _ else progK N r0 first b many (k + j)) = _
    rw [ih, if_neg h]
theorem write_erase {N : Nat} {s : FS} {first k : Nat} {b : List UInt8} (hk : k ≤ manyC b.length) (h : (eraseK N s first k).1 ≠ 0) : writeS N s first b = eraseK N s first k := by
  obtain ⟨j, hj⟩ : ∃ j, manyC b.length = k + j := ⟨_, (Nat.add_sub_of_le hk).symm⟩
  have e := eraseK_stop h j
  have h0 : (progK N (eraseK N s first (manyC b.length)) first b (manyC b.length) 0).1 ≠ 0 := by
    show (eraseK N s first (manyC b.length)).1 ≠ 0
    rw [hj, e]
    exact h
  have e2 := progK_stop h0 (manyC b.length)
  rw [Nat.zero_add] at e2
  unfold writeS
  rw [e2]
  show eraseK N s first (manyC b.length) = _
  rw [hj, e]
theorem write_prog {N : Nat} {s : FS} {first k : Nat} {b : List UInt8} (hk : k ≤ manyC b.length) (h : (progK N (eraseK N s first (manyC b.length)) first b (manyC b.length) k).1 ≠ 0) : writeS N s first b = progK N (eraseK N s first (manyC b.length)) first b (manyC b.length) k := by
  obtain ⟨j, hj⟩ : ∃ j, manyC b.length = k + j := ⟨_, (Nat.add_sub_of_le hk).symm⟩
  have e := progK_stop h j
  rw [← hj] at e
  exact e
theorem add_any (z o j : Nat) : (⟨z, o, none⟩ : Addr).add j = ⟨z, o + j, none⟩ := by
  cases j <;> simp [Addr.add]
theorem rd_piece {w : World} {z : Nat} {b : List UInt8} (h : Rd w (some ⟨z, 0, none⟩) (bs b)) (x : Nat) : Rd w (some ⟨z, 64 * x, none⟩) (bs (pieceB b x)) := fun j u hj => by
  refine ⟨_, rfl, ?_⟩
  rw [add_any]
  have h1 : (bs b)[64 * x + j]? = some u := by
    unfold pieceB at hj
    rw [bs, List.map_take, List.map_drop, List.getElem?_take] at hj
    split at hj
    · rw [List.getElem?_drop] at hj
      exact hj
    · cases hj
  obtain ⟨ad, e, hc⟩ := h _ u h1
  injection e with e
  subst e
  rw [add_any, Nat.zero_add] at hc
  exact hc
theorem chunksV_get {z len k x : Nat} (h : x < k) : (chunksV z len k)[x]? = some (.slice (some ⟨z, 64 * x, none⟩) (chunkC len x) (chunkC len x)) := by
  simp [chunksV, h, chunkV]
instance slElemR : ElemT Try.prog 61 22 1 24 (.slice none 0 0) := ⟨⟨Try.underlying61, by kernel_rfl, rfl, by decide⟩⟩
set_option maxRecDepth 100000 in
theorem chunk_calls (A : Option Addr) (n c : Nat) (w : World) :
    Calls Try.prog 70 #[.slice A n c, .int .i64 64] w fun e w' => ∃ zs zn, e = .returned (.func (.func 95) #[] #[.pointer (some ⟨zs, 0, none⟩), .pointer (some ⟨zn, 0, none⟩)]) ∧ HB w' zs 22 #[.slice A n c] ∧ HB w' zn 3 #[.int .i64 64] ∧ Step nowhere w w' := by
  go_enter Try.func70, Try.ntmps70
  go_wp2_with (first | ((with_reducible apply (wpl_box_agg (dst := some 2))); (exact rfl); intro zs wzs _ _ _) | ((with_reducible apply (wpl_box_int (dst := some 2))); (exact rfl); intro zs wzs _ _ _) | ((with_reducible apply (wpl_box_slice (dst := some 2))); (exact rfl); intro zs wzs _ _ _) | ((with_reducible apply (wpl_box_str (dst := some 2))); (exact rfl); intro zs wzs _ _ _) | ((with_reducible apply (wpl_box_bool (dst := some 2))); (exact rfl); intro zs wzs _ _ _) | ((with_reducible apply (wpl_box_ptr (dst := some 2))); (exact rfl); intro zs wzs _ _ _) | ((with_reducible apply (wpl_box_agg (dst := some 3))); (exact rfl); intro zn wzn _ _ _) | ((with_reducible apply (wpl_box_int (dst := some 3))); (exact rfl); intro zn wzn _ _ _) | ((with_reducible apply (wpl_box_slice (dst := some 3))); (exact rfl); intro zn wzn _ _ _) | ((with_reducible apply (wpl_box_str (dst := some 3))); (exact rfl); intro zn wzn _ _ _) | ((with_reducible apply (wpl_box_bool (dst := some 3))); (exact rfl); intro zn wzn _ _ _) | ((with_reducible apply (wpl_box_ptr (dst := some 3))); (exact rfl); intro zn wzn _ _ _) | ((with_reducible apply wpl_box_agg); (exact rfl); intro z wz _ _ _) | ((with_reducible apply wpl_box_int); (exact rfl); intro z wz _ _ _) | ((with_reducible apply wpl_box_slice); (exact rfl); intro z wz _ _ _) | ((with_reducible apply wpl_box_str); (exact rfl); intro z wz _ _ _) | ((with_reducible apply wpl_box_bool); (exact rfl); intro z wz _ _ _) | ((with_reducible apply wpl_box_ptr); (exact rfl); intro z wz _ _ _) | ((with_reducible apply wpl_loadrow); (exact rfl); infer_instance; infer_instance; (first | (with_reducible assumption) | (with_reducible exact H32.size _) | kernel_rfl)) | ((with_reducible apply wpl_loadcellN); (exact rfl); infer_instance; (exact rfl)))
  go_ret
  exact ⟨zs, zn, rfl, inferInstance, inferInstance, stepN⟩
set_option maxRecDepth 100000 in
set_option maxHeartbeats 1600000 in
theorem write_calls {g p N z n c : Nat} {s : FS} {b : List UInt8} (first : Nat) {w : World} (hF : FlashAt w g p N s) [ho : HO w 5 1 (some ⟨z, 0, none⟩) n c (bs b)] (hl : b.length = n) (hc : n ≤ c) (h0 : 0 < n) (hn : n ≤ 1000000) (hz : ¬ Two g p z) (hf : first ≤ 1000000) :
    Calls Try.prog 45 #[.pointer (some ⟨g, 0, none⟩), .int .i64 (first : Int), .slice (some ⟨z, 0, none⟩) n c] w fun e w' => e = .returned (.int .i64 ((writeS N s first b).1 : Int)) ∧ FlashAt w' g p N (writeS N s first b).2 ∧ Step (Two g p) w w' := by
  obtain ⟨many, hmany⟩ : ∃ many, many = manyC n := ⟨_, rfl⟩
  have hm1 : 1 ≤ many := by rw [hmany]; unfold manyC; omega
  have hm2 : many ≤ 15626 := by rw [hmany]; unfold manyC; omega
  obtain ⟨Wr, hWr⟩ : ∃ Wr, Wr = writeS N s first b := ⟨_, rfl⟩
  have HWE : Hid (∀ k, k ≤ many → (eraseK N s first k).1 ≠ 0 → Wr = eraseK N s first k) := Lib.hid (fun k hk h => by rw [hWr]; exact write_erase (by rw [hl, ← hmany]; exact hk) h)
  have HWP : Hid (∀ k, k ≤ many → (progK N (eraseK N s first many) first b many k).1 ≠ 0 → Wr = progK N (eraseK N s first many) first b many k) := Lib.hid (fun k hk h => by
    rw [hWr]
    have e : manyC b.length = many := by rw [hl, hmany]
    have := write_prog (N := N) (s := s) (first := first) (k := k) (b := b) (by rw [e]; exact hk) (by rw [e]; exact h)
    rw [e] at this
    exact this)
  have HWF : Hid (Wr = progK N (eraseK N s first many) first b many many) := Lib.hid (by rw [hWr, writeS, hl, ← hmany])
  have HF := Lib.hid hF
  have HLL := Lib.hid hl
  have HMC := Lib.hid hmany
  have hlts := hF.lts
  rw [← hWr]
  clear hF hl hmany hWr
  go_enter Try.func45, Try.ntmps45
  go_wp2_with (first | ((with_reducible apply wpl_loadrow); (exact rfl); infer_instance; infer_instance; (first | (with_reducible assumption) | (with_reducible exact H32.size _) | kernel_rfl)) | ((with_reducible apply wpl_loadcellN); (exact rfl); infer_instance; (exact rfl)))
  refine (chunk_calls (some ⟨z, 0, none⟩) n c w).mono ?_
  rintro e w1 ⟨zs, zn, rfl, hzs, hzn, _⟩
  go_wp2_with (first | ((with_reducible apply wpl_loadrow); (exact rfl); infer_instance; infer_instance; (first | (with_reducible assumption) | (with_reducible exact H32.size _) | kernel_rfl)) | ((with_reducible apply wpl_loadcellN); (exact rfl); infer_instance; (exact rfl)))
  refine (collect_calls hn hc hzs hzn).mono ?_
  rw [← HMC.out]
  rintro e w2 ⟨L, cL, rfl, hL, hcL, hnL, _⟩
  have n2 : Nw w w2 := inferInstance
  have hb2 : HR w2 (some ⟨z, 0, none⟩) (bs b) := inferInstance
  have oL : OffR (Two g p) L (chunksV z n many) := ⟨fun _ ad e h => by
    have h1 := hnL.out ad e
    have h2 := (stepN (w0 := w) (w := w1)).chg.size
    rcases h with h | h <;> omega⟩
  have oZ : OffR (Two g p) (some ⟨z, 0, none⟩) (bs b) := ⟨fun _ ad e h => by
    injection e with e
    subst e
    exact hz h⟩
  go_wp2_with (first | ((with_reducible apply wpl_loadrow); (exact rfl); infer_instance; infer_instance; (first | (with_reducible assumption) | (with_reducible exact H32.size _) | kernel_rfl)) | ((with_reducible apply wpl_loadcellN); (exact rfl); infer_instance; (exact rfl)))
  go_loopw [18] (fun iv wr => ∃ k : Nat, k ≤ many ∧ iv = .int .i64 (k : Int) ∧ Step (Two g p) w wr ∧ HR wr L (chunksV z n many) ∧ HR wr (some ⟨z, 0, none⟩) (bs b) ∧ Hid ((eraseK N s first k).1 = 0) ∧ Hid (FlashAt wr g p N (eraseK N s first k).2)) (fun iv _ => many - (intOf iv).toNat)
  case atStart => exact ⟨0, Nat.zero_le _, rfl, ⟨n2.out.mono (fun _ _ h => h.elim)⟩, inferInstance, inferInstance, Lib.hid rfl, Lib.hid (HF.out.calm n2.out)⟩
  case round =>
    obtain ⟨k, hk, rfl, st, hLr, hbr, HE0, HFr⟩ := hrel
    by_cases hlt : k < many
    · have hltI : (k : Int) < many := by omega
      obtain ⟨r, hr⟩ : ∃ r, r = (eraseK N s first k).2.change N ((first + k : Nat) : Int) 64 erD := ⟨_, rfl⟩
      have hr2 : eraseK N s first (k + 1) = r := by rw [hr, eraseK, if_pos HE0.out]
      have HR2 := Lib.hid hr2
      have HR1 := Lib.hid hr
      clear hr hr2
      go_wp2_with (first | ((with_reducible apply wpl_loadrow); (exact rfl); infer_instance; infer_instance; (first | (with_reducible assumption) | (with_reducible exact H32.size _) | kernel_rfl)) | ((with_reducible apply wpl_loadcellN); (exact rfl); infer_instance; (exact rfl)))
      refine (Erase_calls g p N _ _ wr HFr.out).mono ?_
      rw [← Int.natCast_add, ← HR1.out]
      rintro e w5 ⟨rfl, h5, c5⟩
      have s5 : Step (Two g p) wr w5 := ⟨c5.out⟩
      have sw5 : Step (Two g p) w w5 := ⟨st.chg.trans c5.out (fun _ _ h => h)⟩
      have H5 := h5
      clear h5 c5
      by_cases hz0 : r.1 = 0
      · have e1 : ((r.1 : Int) != 0) = false := by simp [hz0]
        have HZ0 := Lib.hid hz0
        clear hz0
        go_wp2_with (first | ((with_reducible apply wpl_loadrow); (exact rfl); infer_instance; infer_instance; (first | (with_reducible assumption) | (with_reducible exact H32.size _) | kernel_rfl)) | ((with_reducible apply wpl_loadcellN); (exact rfl); infer_instance; (exact rfl)))
        exact ⟨⟨k + 1, by omega, by go_num, sw5, inferInstance, inferInstance, Lib.hid (by rw [HR2.out]; exact HZ0.out), Lib.hid (by rw [HR2.out]; exact H5.out)⟩, by simp [intOf]; omega⟩
      · have e1 : ((r.1 : Int) != 0) = true := by simp [hz0]
        have hwr : Wr = r := by
          have h := HWE.out (k + 1) (by omega) (by rw [HR2.out]; exact hz0)
          rw [HR2.out] at h
          exact h
        have HWR := Lib.hid hwr
        clear hz0 hwr
        go_wp2_with (first | ((with_reducible apply wpl_loadrow); (exact rfl); infer_instance; infer_instance; (first | (with_reducible assumption) | (with_reducible exact H32.size _) | kernel_rfl)) | ((with_reducible apply wpl_loadcellN); (exact rfl); infer_instance; (exact rfl)))
        go_ret
        rw [HWR.out]
        exact ⟨rfl, H5.out, sw5⟩
    · have hltI : ¬ (k : Int) < many := by omega
      obtain rfl : k = many := by omega
      obtain ⟨E, hE⟩ : ∃ E, E = eraseK N s first k := ⟨_, rfl⟩
      have HWP2 : Hid (∀ j, j ≤ k → (progK N E first b k j).1 ≠ 0 → Wr = progK N E first b k j) := Lib.hid (by rw [hE]; exact HWP.out)
      have HWF2 : Hid (Wr = progK N E first b k k) := Lib.hid (by rw [hE]; exact HWF.out)
      rw [← hE] at HE0 HFr
      clear hE HWE HWP HWF
      go_wp2_with (first | ((with_reducible apply wpl_loadrow); (exact rfl); infer_instance; infer_instance; (first | (with_reducible assumption) | (with_reducible exact H32.size _) | kernel_rfl)) | ((with_reducible apply wpl_loadcellN); (exact rfl); infer_instance; (exact rfl)))
      go_loopw [32] (fun iv wt => ∃ j : Nat, j ≤ k ∧ iv = .int .i64 (j : Int) ∧ Step (Two g p) w wt ∧ HR wt L (chunksV z n k) ∧ HR wt (some ⟨z, 0, none⟩) (bs b) ∧ Hid ((progK N E first b k j).1 = 0) ∧ Hid (FlashAt wt g p N (progK N E first b k j).2)) (fun iv _ => k - (intOf iv).toNat)
      case atStart => exact ⟨0, Nat.zero_le _, rfl, st, hLr, hbr, HE0, HFr⟩
      case round =>
        obtain ⟨j, hj, rfl, st2, hLt, hbt, HP0, HFt⟩ := hrel
        by_cases hlt2 : j < k
        · have hlt2I : (j : Int) < k := by omega
          obtain ⟨q, hq⟩ : ∃ q, q = (j + 1) % k := ⟨_, rfl⟩
          have hqk : q < k := by rw [hq]; exact Nat.mod_lt _ (by omega)
          have hrem : ((j : Int) + 1).tmod (k : Int) = (q : Int) := by
            rw [hq]
            exact (Int.ofNat_tmod (j + 1) k).symm
          obtain ⟨r, hr⟩ : ∃ r, r = (progK N E first b k j).2.change N ((first + q : Nat) : Int) (pieceB b q).length (prD (pieceB b q)) := ⟨_, rfl⟩
          have hr2 : progK N E first b k (j + 1) = r := by rw [hr, progK, if_pos HP0.out, hq]
          have HR2 := Lib.hid hr2
          have HR1 := Lib.hid hr
          have hpl : (pieceB b q).length = chunkC n q := by rw [pieceB_len, HLL.out]
          have HPL := Lib.hid hpl
          have hget := chunksV_get (z := z) (len := n) hqk
          have hvl : 0 < (chunksV z n k).length := by rw [chunksV_len]; omega
          have hcq : chunkC n q ≤ 64 := by rw [chunkC_eq]; omega
          have hk0 : ¬ (k : Int) = 0 := by omega
          clear hr hr2 hq hpl
          go_wp2_with (first | ((with_reducible apply (wpl_index1 (k := q))); (exact rfl); (exact rfl); infer_instance; (exact hLt); (exact hvl); (exact hqk)) | ((with_reducible apply (wpl_load1 (k := q))); (exact rfl); (exact hLt); infer_instance; (exact hget)) | ((with_reducible apply wpl_loadrow); (exact rfl); infer_instance; infer_instance; (first | (with_reducible assumption) | (with_reducible exact H32.size _) | kernel_rfl)) | ((with_reducible apply wpl_loadcellN); (exact rfl); infer_instance; (exact rfl)))
          refine (Program_calls g p N _ _ (some ⟨z, 64 * q, none⟩) (chunkC n q) (chunkC n q) (pieceB b q) wr HFt.out (rd_piece hbt.out q) HPL.out (fun _ ad e h => by
            injection e with e
            subst e
            exact hz h) (by omega)).mono ?_
          rw [← Int.natCast_add, ← HPL.out, ← HR1.out]
          rintro e w5 ⟨rfl, h5, c5⟩
          have s5 : Step (Two g p) wr w5 := ⟨c5.out⟩
          have sw5 : Step (Two g p) w w5 := ⟨st2.chg.trans c5.out (fun _ _ h => h)⟩
          have H5 := h5
          clear h5 c5
          by_cases hz0 : r.1 = 0
          · have e1 : ((r.1 : Int) != 0) = false := by simp [hz0]
            have HZ0 := Lib.hid hz0
            clear hz0
            go_wp2_with (first | ((with_reducible apply wpl_loadrow); (exact rfl); infer_instance; infer_instance; (first | (with_reducible assumption) | (with_reducible exact H32.size _) | kernel_rfl)) | ((with_reducible apply wpl_loadcellN); (exact rfl); infer_instance; (exact rfl)))
            exact ⟨⟨j + 1, by omega, by go_num, sw5, inferInstance, inferInstance, Lib.hid (by rw [HR2.out]; exact HZ0.out), Lib.hid (by rw [HR2.out]; exact H5.out)⟩, by simp [intOf]; omega⟩
          · have e1 : ((r.1 : Int) != 0) = true := by simp [hz0]
            have hwr : Wr = r := by
              have h := HWP2.out (j + 1) (by omega) (by rw [HR2.out]; exact hz0)
              rw [HR2.out] at h
              exact h
            have HWR := Lib.hid hwr
            clear hz0 hwr
            go_wp2_with (first | ((with_reducible apply wpl_loadrow); (exact rfl); infer_instance; infer_instance; (first | (with_reducible assumption) | (with_reducible exact H32.size _) | kernel_rfl)) | ((with_reducible apply wpl_loadcellN); (exact rfl); infer_instance; (exact rfl)))
            go_ret
            rw [HWR.out]
            exact ⟨rfl, H5.out, sw5⟩
        · have hlt2I : ¬ (j : Int) < k := by omega
          obtain rfl : j = k := by omega
          go_wp2_with (first | ((with_reducible apply wpl_loadrow); (exact rfl); infer_instance; infer_instance; (first | (with_reducible assumption) | (with_reducible exact H32.size _) | kernel_rfl)) | ((with_reducible apply wpl_loadcellN); (exact rfl); infer_instance; (exact rfl)))
          go_ret
          rw [HWF2.out, HP0.out]
          exact ⟨rfl, HFt.out, st2⟩
end Go.Proofs.Ytegdihpnefoolaa
