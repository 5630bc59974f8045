/- TgF -/
import Derived.Test.YthcleccofccbdaaToTgE
import Derived.Test.YthcleccofccbdaaToWnB
open Go Go.RowKit
namespace Go.Proofs.Ythcleccofccbdaa
theorem EncPost.uniT {ok : Bool} {bytes : List UInt8} {w w' : World} {e : Ending} (h : EncPost ok bytes w e w') :
    Step nowhere w w' ∧ ∃ A n c, e = .returned (.tuple #[.slice A n c, .int .i64 (if ok then 0 else 1)]) := by
  obtain ⟨hs, h⟩ := h
  refine ⟨hs, ?_⟩
  cases ok with
  | false =>
    obtain rfl : e = _ := h
    exact ⟨none, 0, 0, rfl⟩
  | true =>
    obtain ⟨A, n, c, rfl, _, _, _⟩ := h
    exact ⟨A, n, c, rfl⟩
/-- two targets as a slice -/
theorem run_twoT (r s : TargetR) (w : World) : (Instr.buildSlice 68 2 #[(0, .agg (RowC.enc r).toArray), (1, .agg (RowC.enc s).toArray)]).run Try.prog w = .ok (.slice (some ⟨w.heap.size, 0, none⟩) 2 2) (w.alloc (.cells (cellsOf [r, s]).toArray 80)) := by
  have hs : (RowC.enc r).toArray.size = 37 := RowC.len r
  have hs2 : (RowC.enc s).toArray.size = 37 := RowC.len s
  have hz : ∀ w, (zeroValue 80).run Try.prog w = .ok (.agg zeroTg) w := fun _ => by kernel_rfl
  have hi : ∀ w, (sizeOf 80).run Try.prog w = .ok 37 w := fun _ => by kernel_rfl
  have hz1 : zeroTg.size = 37 := rfl
  have he : (cellsOf [r, s]).toArray = ((RowC.enc r).toArray.toList ++ (RowC.enc s).toArray.toList).toArray := by simp [cellsOf]
  rw [he]
  obtain ⟨Z, hZ⟩ : ∃ Z : Array Value, Z = zeroTg := ⟨_, rfl⟩
  obtain ⟨R, hR⟩ : ∃ R : Array Value, R = (RowC.enc r).toArray := ⟨_, rfl⟩
  obtain ⟨S, hS⟩ : ∃ S : Array Value, S = (RowC.enc s).toArray := ⟨_, rfl⟩
  rw [← hZ] at hz hz1
  rw [← hR] at hs ⊢
  rw [← hS] at hs2 ⊢
  clear hZ hR hS he
  unfold Instr.buildSlice
  simp only [Sem.run_bind, run_underlying Try.underlying68, Result.andThen_ok, hi]
  obtain ⟨W, hW⟩ : ∃ W : Array Value, W = (Array.range (2 * 37)).map (Z[· % Z.size]!) := ⟨_, rfl⟩
  have hWs : W.size = 74 := by rw [hW]; simp
  have hf : Instr.fill (fun i => some (i * 37, 37)) W [(0, Value.agg R), (1, Value.agg S)] = some (R.toList ++ S.toList).toArray := by
    rw [fill_step _ _ 0 (.agg R) _ (off := 0) (size := 37) rfl hs (by rw [hWs]; decide)]
    have hl : (lay 0 R W).size = 74 := by simp [lay, hWs, hs]
    show Instr.fill _ (lay 0 R W) _ = _
    rw [fill_step _ _ 1 (.agg S) _ (off := 37) (size := 37) rfl hs2 (by rw [hl]; decide)]
    have e : lay 37 S (lay 0 R W) = (R.toList ++ S.toList).toArray := by
      unfold lay
      congr 1
      have hR37 : R.toList.length = 37 := hs
      simp only [List.take_zero, List.nil_append, Nat.zero_add, hs, hs2]
      rw [List.take_left' hR37, List.drop_of_length_le (by simp [hWs, hR37]), List.append_nil]
    show Instr.fill _ (lay 37 S (lay 0 R W)) [] = _
    rw [e]
    rfl
  rw [hW] at hf
  simp [hz, Value.cells, hf, newRow]
theorem run_tgs (A : Option Addr) (w : World) : (Instr.build 71 #[(0, .string ⟨#[116]⟩), (1, .int .i64 1), (3, .slice A 2 2)]).run Try.prog w = .ok (.agg #[.string (strL [116]), .int .i64 1, .int .i64 0, .slice A 2 2, .slice none 0 0]) w := by kernel_rfl
theorem run_pinO (n : List UInt8) (w : World) : (Instr.build 46 #[(0, .string (strL n)), (1, .int .i64 1)]).run Try.prog w = .ok (.agg (RowC.enc (⟨n, 1⟩ : PinR)).toArray) w := by kernel_rfl
theorem run_pins2 (a b : PinR) (w : World) : (Instr.buildSlice 42 2 #[(0, .agg (RowC.enc a).toArray), (1, .agg (RowC.enc b).toArray)]).run Try.prog w = .ok (.slice (some ⟨w.heap.size, 0, none⟩) 2 2) (w.alloc (.cells (cellsOf [a, b]).toArray 46)) := by kernel_rfl
theorem run_snapO (A : Option Addr) (w : World) : (Instr.build 44 #[(0, .int .i64 1), (2, .slice A 2 2)]).run Try.prog w = .ok (.agg #[.int .i64 1, .int .i64 0, .slice A 2 2]) w := by kernel_rfl
theorem HB.rowsT {α : Type} [RowC α] {w : World} {z : Nat} {t : TypeId} {L : List α} (h : HB w z t (cellsOf L).toArray) : HR w (some ⟨z, 0, none⟩) (cellsOf L) := ⟨by
  have h1 := h.rdL
  simpa using h1⟩
theorem rise2 (a b : TargetR) : riseT [a, b] [a, b].length = tgLt a b := by simp [riseT, gt]
theorem snap2 {n m : List UInt8} (hn : nameL n = true) (hm : nameL m = true) : snapOk 1 0 [⟨n, 1⟩, ⟨m, 1⟩] = Op.bytesLess n m := by
  simp [snapOk, riseB, gt, pinOk, pinLt, hn, hm, verB, numB]
theorem ifz (b : Bool) : ((if b = true then (0 : Int) else 1) == 0) = b := by cases b <;> rfl
theorem tgs2 {a b : TargetR} (ha : tgOk a = true) (hb : tgOk b = true) : TgsIn [116] 1 0 [a, b] := ⟨by decide, by decide, by decide, by show 2 ≤ 16; decide, by simp [ha, hb]⟩
set_option maxRecDepth 100000 in
set_option maxHeartbeats 6400000 in
theorem wireOrder_calls (a b : TargetR) (n m : List UInt8) {w : World} (ha : (strL a.l).size ≤ 9223372036854775807 ∧ (strL a.hw).size ≤ 9223372036854775807 ∧ (strL a.ecu).size ≤ 9223372036854775807) (hb : (strL b.l).size ≤ 9223372036854775807 ∧ (strL b.hw).size ≤ 9223372036854775807 ∧ (strL b.ecu).size ≤ 9223372036854775807) (hn : (strL n).size ≤ 9223372036854775807) (hm : (strL m).size ≤ 9223372036854775807) :
    Calls Try.prog 7 #[.agg (RowC.enc a).toArray, .agg (RowC.enc b).toArray, .string (strL n), .string (strL m)] w fun e w' => e = .returned (.bool true) ∧ Chg nowhere w w' := by
  have HA := Lib.hid ha
  have HB' := Lib.hid hb
  have HN := Lib.hid hn
  have HM := Lib.hid hm
  clear ha hb hn hm
  have hsa : (RowC.enc a).toArray.size = 37 := tgR_len a
  have hsb : (RowC.enc b).toArray.size = 37 := tgR_len b
  have hoa := enc_one a
  have hob := enc_one b
  obtain ⟨R0, hR0⟩ : ∃ R, R = tgOk a := ⟨_, rfl⟩
  obtain ⟨R1, hR1⟩ : ∃ R, R = tgOk b := ⟨_, rfl⟩
  obtain ⟨R2, hR2⟩ : ∃ R, R = nameL n := ⟨_, rfl⟩
  obtain ⟨R3, hR3⟩ : ∃ R, R = nameL m := ⟨_, rfl⟩
  have HR0 := Lib.hid hR0
  have HR1 := Lib.hid hR1
  have HR2 := Lib.hid hR2
  have HR3 := Lib.hid hR3
  clear hR0 hR1 hR2 hR3
  go_enter Try.func7, Try.ntmps7
  go_wp2_with (first | go_skip | ((with_reducible apply wpl_loadrow); (exact rfl); infer_instance; infer_instance; (exact hsa)) | ((with_reducible apply (wpl_box_agg (dst := some 4))); (exact rfl); intro za wza _ _ _) | ((with_reducible apply (wpl_box_int (dst := some 4))); (exact rfl); intro za wza _ _ _) | ((with_reducible apply (wpl_box_slice (dst := some 4))); (exact rfl); intro za wza _ _ _) | ((with_reducible apply (wpl_box_str (dst := some 4))); (exact rfl); intro za wza _ _ _) | ((with_reducible apply (wpl_box_bool (dst := some 4))); (exact rfl); intro za wza _ _ _) | ((with_reducible apply (wpl_box_ptr (dst := some 4))); (exact rfl); intro za wza _ _ _) | ((with_reducible apply (wpl_box_agg (dst := some 5))); (exact rfl); intro zb wzb _ _ _) | ((with_reducible apply (wpl_box_int (dst := some 5))); (exact rfl); intro zb wzb _ _ _) | ((with_reducible apply (wpl_box_slice (dst := some 5))); (exact rfl); intro zb wzb _ _ _) | ((with_reducible apply (wpl_box_str (dst := some 5))); (exact rfl); intro zb wzb _ _ _) | ((with_reducible apply (wpl_box_bool (dst := some 5))); (exact rfl); intro zb wzb _ _ _) | ((with_reducible apply (wpl_box_ptr (dst := some 5))); (exact rfl); intro zb wzb _ _ _) | ((with_reducible apply wpl_box_agg); (exact rfl); intro z wz _ _ _) | ((with_reducible apply wpl_box_int); (exact rfl); intro z wz _ _ _) | ((with_reducible apply wpl_box_slice); (exact rfl); intro z wz _ _ _) | ((with_reducible apply wpl_box_str); (exact rfl); intro z wz _ _ _) | ((with_reducible apply wpl_box_bool); (exact rfl); intro z wz _ _ _) | ((with_reducible apply wpl_box_ptr); (exact rfl); intro z wz _ _ _) | ((with_reducible apply (wpl_guard (op := .load _ _))); (exact rfl)) | ((with_reducible apply (wpl_guard (op := .fieldAddr _ _ _))); (exact rfl)) | ((with_reducible apply wpl_loadrow); (exact rfl); infer_instance; infer_instance; (first | (with_reducible assumption) | (with_reducible exact H32.size _) | (with_reducible exact enc_sz _ rfl) | kernel_rfl)) | ((with_reducible apply wpl_loadcellN); (exact rfl); infer_instance; (exact rfl)))
  refine (rIsTarget_calls a _ HA.out).mono ?_
  rw [← HR0.out]
  rintro e w1 ⟨rfl, _⟩
  have hza : HB w1 za 80 (RowC.enc a).toArray := inferInstance
  have hzb : HB w1 zb 80 (RowC.enc b).toArray := inferInstance
  cases R0
  case false =>
    go_wp2_with (first | go_skip | ((with_reducible apply (wpl_guard (op := .call _))); (exact rfl)) | ((with_reducible apply (wpl_guard (op := .load _ _))); (exact rfl)) | ((with_reducible apply wpl_box_agg); (exact rfl); intro z wz _ _ _) | ((with_reducible apply wpl_box_int); (exact rfl); intro z wz _ _ _) | ((with_reducible apply wpl_box_slice); (exact rfl); intro z wz _ _ _) | ((with_reducible apply wpl_box_str); (exact rfl); intro z wz _ _ _) | ((with_reducible apply wpl_box_bool); (exact rfl); intro z wz _ _ _) | ((with_reducible apply wpl_box_ptr); (exact rfl); intro z wz _ _ _) | ((with_reducible apply (wpl_guard (op := .load _ _))); (exact rfl)) | ((with_reducible apply (wpl_guard (op := .fieldAddr _ _ _))); (exact rfl)) | ((with_reducible apply wpl_loadrow); (exact rfl); infer_instance; infer_instance; (first | (with_reducible assumption) | (with_reducible exact H32.size _) | (with_reducible exact enc_sz _ rfl) | kernel_rfl)) | ((with_reducible apply wpl_loadcellN); (exact rfl); infer_instance; (exact rfl)))
    go_ret
    exact ⟨rfl, (stepN (w0 := w)).chg⟩
  go_wp2_with (first | go_skip | ((with_reducible apply wpl_loadrow); (exact rfl); (first | (exact hza) | (exact hzb)); infer_instance; (first | (exact hsa) | (exact hsb))) | ((with_reducible apply wpl_box_agg); (exact rfl); intro z wz _ _ _) | ((with_reducible apply wpl_box_int); (exact rfl); intro z wz _ _ _) | ((with_reducible apply wpl_box_slice); (exact rfl); intro z wz _ _ _) | ((with_reducible apply wpl_box_str); (exact rfl); intro z wz _ _ _) | ((with_reducible apply wpl_box_bool); (exact rfl); intro z wz _ _ _) | ((with_reducible apply wpl_box_ptr); (exact rfl); intro z wz _ _ _) | ((with_reducible apply (wpl_guard (op := .load _ _))); (exact rfl)) | ((with_reducible apply (wpl_guard (op := .fieldAddr _ _ _))); (exact rfl)) | ((with_reducible apply wpl_loadrow); (exact rfl); infer_instance; infer_instance; (first | (with_reducible assumption) | (with_reducible exact H32.size _) | (with_reducible exact enc_sz _ rfl) | kernel_rfl)) | ((with_reducible apply wpl_loadcellN); (exact rfl); infer_instance; (exact rfl)))
  refine (rIsTarget_calls b _ HB'.out).mono ?_
  rw [← HR1.out]
  rintro e w2 ⟨rfl, _⟩
  cases R1
  case false =>
    go_wp2_with (first | go_skip | ((with_reducible apply (wpl_guard (op := .call _))); (exact rfl)) | ((with_reducible apply (wpl_guard (op := .load _ _))); (exact rfl)) | ((with_reducible apply wpl_box_agg); (exact rfl); intro z wz _ _ _) | ((with_reducible apply wpl_box_int); (exact rfl); intro z wz _ _ _) | ((with_reducible apply wpl_box_slice); (exact rfl); intro z wz _ _ _) | ((with_reducible apply wpl_box_str); (exact rfl); intro z wz _ _ _) | ((with_reducible apply wpl_box_bool); (exact rfl); intro z wz _ _ _) | ((with_reducible apply wpl_box_ptr); (exact rfl); intro z wz _ _ _) | ((with_reducible apply (wpl_guard (op := .load _ _))); (exact rfl)) | ((with_reducible apply (wpl_guard (op := .fieldAddr _ _ _))); (exact rfl)) | ((with_reducible apply wpl_loadrow); (exact rfl); infer_instance; infer_instance; (first | (with_reducible assumption) | (with_reducible exact H32.size _) | (with_reducible exact enc_sz _ rfl) | kernel_rfl)) | ((with_reducible apply wpl_loadcellN); (exact rfl); infer_instance; (exact rfl)))
    go_ret
    exact ⟨rfl, (stepN (w0 := w)).chg⟩
  go_wp2_with (first | go_skip | ((with_reducible apply wpl_box_agg); (exact rfl); intro z wz _ _ _) | ((with_reducible apply wpl_box_int); (exact rfl); intro z wz _ _ _) | ((with_reducible apply wpl_box_slice); (exact rfl); intro z wz _ _ _) | ((with_reducible apply wpl_box_str); (exact rfl); intro z wz _ _ _) | ((with_reducible apply wpl_box_bool); (exact rfl); intro z wz _ _ _) | ((with_reducible apply wpl_box_ptr); (exact rfl); intro z wz _ _ _) | ((with_reducible apply (wpl_guard (op := .load _ _))); (exact rfl)) | ((with_reducible apply (wpl_guard (op := .fieldAddr _ _ _))); (exact rfl)) | ((with_reducible apply wpl_loadrow); (exact rfl); infer_instance; infer_instance; (first | (with_reducible assumption) | (with_reducible exact H32.size _) | (with_reducible exact enc_sz _ rfl) | kernel_rfl)) | ((with_reducible apply wpl_loadcellN); (exact rfl); infer_instance; (exact rfl)))
  refine (rName_calls (strL n) n rfl HN.out _).mono ?_
  rw [← HR2.out]
  rintro e w3 ⟨rfl, _⟩
  cases R2
  case false =>
    go_wp2_with (first | go_skip | ((with_reducible apply (wpl_guard (op := .call _))); (exact rfl)) | ((with_reducible apply (wpl_guard (op := .load _ _))); (exact rfl)) | ((with_reducible apply wpl_box_agg); (exact rfl); intro z wz _ _ _) | ((with_reducible apply wpl_box_int); (exact rfl); intro z wz _ _ _) | ((with_reducible apply wpl_box_slice); (exact rfl); intro z wz _ _ _) | ((with_reducible apply wpl_box_str); (exact rfl); intro z wz _ _ _) | ((with_reducible apply wpl_box_bool); (exact rfl); intro z wz _ _ _) | ((with_reducible apply wpl_box_ptr); (exact rfl); intro z wz _ _ _) | ((with_reducible apply (wpl_guard (op := .load _ _))); (exact rfl)) | ((with_reducible apply (wpl_guard (op := .fieldAddr _ _ _))); (exact rfl)) | ((with_reducible apply wpl_loadrow); (exact rfl); infer_instance; infer_instance; (first | (with_reducible assumption) | (with_reducible exact H32.size _) | (with_reducible exact enc_sz _ rfl) | kernel_rfl)) | ((with_reducible apply wpl_loadcellN); (exact rfl); infer_instance; (exact rfl)))
    go_ret
    exact ⟨rfl, (stepN (w0 := w)).chg⟩
  go_wp2_with (first | go_skip | ((with_reducible apply wpl_box_agg); (exact rfl); intro z wz _ _ _) | ((with_reducible apply wpl_box_int); (exact rfl); intro z wz _ _ _) | ((with_reducible apply wpl_box_slice); (exact rfl); intro z wz _ _ _) | ((with_reducible apply wpl_box_str); (exact rfl); intro z wz _ _ _) | ((with_reducible apply wpl_box_bool); (exact rfl); intro z wz _ _ _) | ((with_reducible apply wpl_box_ptr); (exact rfl); intro z wz _ _ _) | ((with_reducible apply (wpl_guard (op := .load _ _))); (exact rfl)) | ((with_reducible apply (wpl_guard (op := .fieldAddr _ _ _))); (exact rfl)) | ((with_reducible apply wpl_loadrow); (exact rfl); infer_instance; infer_instance; (first | (with_reducible assumption) | (with_reducible exact H32.size _) | (with_reducible exact enc_sz _ rfl) | kernel_rfl)) | ((with_reducible apply wpl_loadcellN); (exact rfl); infer_instance; (exact rfl)))
  refine (rName_calls (strL m) m rfl HM.out _).mono ?_
  rw [← HR3.out]
  rintro e w4 ⟨rfl, _⟩
  cases R3
  case false =>
    go_wp2_with (first | go_skip | ((with_reducible apply wpl_box_agg); (exact rfl); intro z wz _ _ _) | ((with_reducible apply wpl_box_int); (exact rfl); intro z wz _ _ _) | ((with_reducible apply wpl_box_slice); (exact rfl); intro z wz _ _ _) | ((with_reducible apply wpl_box_str); (exact rfl); intro z wz _ _ _) | ((with_reducible apply wpl_box_bool); (exact rfl); intro z wz _ _ _) | ((with_reducible apply wpl_box_ptr); (exact rfl); intro z wz _ _ _) | ((with_reducible apply (wpl_guard (op := .load _ _))); (exact rfl)) | ((with_reducible apply (wpl_guard (op := .fieldAddr _ _ _))); (exact rfl)) | ((with_reducible apply wpl_loadrow); (exact rfl); infer_instance; infer_instance; (first | (with_reducible assumption) | (with_reducible exact H32.size _) | (with_reducible exact enc_sz _ rfl) | kernel_rfl)) | ((with_reducible apply wpl_loadcellN); (exact rfl); infer_instance; (exact rfl)))
    go_ret
    exact ⟨rfl, (stepN (w0 := w)).chg⟩
  have kab := run_twoT a b
  have kba := run_twoT b a
  have kp1 := run_pinO n
  have kp2 := run_pinO m
  have kpp := run_pins2 ⟨n, 1⟩ ⟨m, 1⟩
  have hza4 : HB w4 za 80 (RowC.enc a).toArray := inferInstance
  have hzb4 : HB w4 zb 80 (RowC.enc b).toArray := inferInstance
  clear hza hzb
  go_wp2_with (first | go_skip | ((with_reducible apply wpl_loadrow); (exact rfl); (first | (exact hza4) | (exact hzb4)); infer_instance; (first | (exact hsa) | (exact hsb))) | ((with_reducible apply (stop_dst (dst := some 38))); (try simp only [Act.put, sA, sB, sC]); ((with_reducible apply (wpl_bslice (dst := some 38))); (exact kab _); intro zs wb _ _ _)) | ((with_reducible apply wpl_build); (exact run_tgs _ _)) | ((with_reducible apply wpl_box_agg); (exact rfl); intro z wz _ _ _) | ((with_reducible apply wpl_box_int); (exact rfl); intro z wz _ _ _) | ((with_reducible apply wpl_box_slice); (exact rfl); intro z wz _ _ _) | ((with_reducible apply wpl_box_str); (exact rfl); intro z wz _ _ _) | ((with_reducible apply wpl_box_bool); (exact rfl); intro z wz _ _ _) | ((with_reducible apply wpl_box_ptr); (exact rfl); intro z wz _ _ _) | ((with_reducible apply (wpl_guard (op := .load _ _))); (exact rfl)) | ((with_reducible apply (wpl_guard (op := .fieldAddr _ _ _))); (exact rfl)) | ((with_reducible apply wpl_loadrow); (exact rfl); infer_instance; infer_instance; (first | (with_reducible assumption) | (with_reducible exact H32.size _) | (with_reducible exact enc_sz _ rfl) | kernel_rfl)) | ((with_reducible apply wpl_loadcellN); (exact rfl); infer_instance; (exact rfl)))
  have hrs : HR wb (some ⟨zs, 0, none⟩) (cellsOf [a, b]) := HB.rowsT (inferInstance : HB wb zs 80 (cellsOf [a, b]).toArray)
  refine (EncodeTgs0_calls [116] 1 0 (P := [a, b]) (n := 2) (c := 2) rfl (tgs2 HR0.out.symm HR1.out.symm)).mono ?_
  rw [rise2]
  intro e w5 h5
  obtain ⟨_, A5, n5, c5, rfl⟩ := h5.uniT
  have hza5 : HB w5 za 80 (RowC.enc a).toArray := inferInstance
  have hzb5 : HB w5 zb 80 (RowC.enc b).toArray := inferInstance
  obtain ⟨E1, hE1⟩ : ∃ E : Int, E = if tgLt a b = true then 0 else 1 := ⟨_, rfl⟩
  rw [← hE1]
  have Q1 : Hid ((E1 == 0) = tgLt a b) := Lib.hid (by rw [hE1, ifz])
  clear hE1 h5 hza4 hzb4 hrs
  go_wp2_with (first | go_skip | ((with_reducible apply wpl_loadrow); (exact rfl); (first | (exact hza5) | (exact hzb5)); infer_instance; (first | (exact hsa) | (exact hsb))) | ((with_reducible apply (stop_dst (dst := some 46))); (try simp only [Act.put, sA, sB, sC]); ((with_reducible apply (wpl_bslice (dst := some 46))); (exact kba _); intro zt wb _ _ _)) | ((with_reducible apply wpl_build); (exact run_tgs _ _)) | ((with_reducible apply wpl_box_agg); (exact rfl); intro z wz _ _ _) | ((with_reducible apply wpl_box_int); (exact rfl); intro z wz _ _ _) | ((with_reducible apply wpl_box_slice); (exact rfl); intro z wz _ _ _) | ((with_reducible apply wpl_box_str); (exact rfl); intro z wz _ _ _) | ((with_reducible apply wpl_box_bool); (exact rfl); intro z wz _ _ _) | ((with_reducible apply wpl_box_ptr); (exact rfl); intro z wz _ _ _) | ((with_reducible apply (wpl_guard (op := .load _ _))); (exact rfl)) | ((with_reducible apply (wpl_guard (op := .fieldAddr _ _ _))); (exact rfl)) | ((with_reducible apply wpl_loadrow); (exact rfl); infer_instance; infer_instance; (first | (with_reducible assumption) | (with_reducible exact H32.size _) | (with_reducible exact enc_sz _ rfl) | kernel_rfl)) | ((with_reducible apply wpl_loadcellN); (exact rfl); infer_instance; (exact rfl)))
  have hrt : HR wb (some ⟨zt, 0, none⟩) (cellsOf [b, a]) := HB.rowsT (inferInstance : HB wb zt 80 (cellsOf [b, a]).toArray)
  refine (EncodeTgs0_calls [116] 1 0 (P := [b, a]) (n := 2) (c := 2) rfl (tgs2 HR1.out.symm HR0.out.symm)).mono ?_
  rw [rise2]
  intro e w6 h6
  obtain ⟨_, A6, n6, c6, rfl⟩ := h6.uniT
  have hza : HB w6 za 80 (RowC.enc a).toArray := inferInstance
  have hzb : HB w6 zb 80 (RowC.enc b).toArray := inferInstance
  obtain ⟨E2, hE2⟩ : ∃ E : Int, E = if tgLt b a = true then 0 else 1 := ⟨_, rfl⟩
  rw [← hE2]
  have Q2 : Hid ((E2 == 0) = tgLt b a) := Lib.hid (by rw [hE2, ifz])
  clear hE2 h6 hza5 hzb5 hrt
  go_wp2_with (first | go_skip | ((with_reducible apply (stop_dst (dst := some 53))); (try simp only [Act.put, sA, sB, sC]); ((with_reducible apply (wpl_build (dst := some 53))); (exact kp1 _))) | ((with_reducible apply (stop_dst (dst := some 55))); (try simp only [Act.put, sA, sB, sC]); ((with_reducible apply (wpl_build (dst := some 55))); (exact kp2 _))) | ((with_reducible apply (stop_dst (dst := some 56))); (try simp only [Act.put, sA, sB, sC]); ((with_reducible apply (wpl_bslice (dst := some 56))); (exact kpp _); intro zp wb _ _ _)) | ((with_reducible apply (stop_dst (dst := some 57))); (try simp only [Act.put, sA, sB, sC]); ((with_reducible apply (wpl_build (dst := some 57))); (exact run_snapO _ _))) | ((with_reducible apply wpl_box_agg); (exact rfl); intro z wz _ _ _) | ((with_reducible apply wpl_box_int); (exact rfl); intro z wz _ _ _) | ((with_reducible apply wpl_box_slice); (exact rfl); intro z wz _ _ _) | ((with_reducible apply wpl_box_str); (exact rfl); intro z wz _ _ _) | ((with_reducible apply wpl_box_bool); (exact rfl); intro z wz _ _ _) | ((with_reducible apply wpl_box_ptr); (exact rfl); intro z wz _ _ _) | ((with_reducible apply (wpl_guard (op := .load _ _))); (exact rfl)) | ((with_reducible apply (wpl_guard (op := .fieldAddr _ _ _))); (exact rfl)) | ((with_reducible apply wpl_loadrow); (exact rfl); infer_instance; infer_instance; (first | (with_reducible assumption) | (with_reducible exact H32.size _) | (with_reducible exact enc_sz _ rfl) | kernel_rfl)) | ((with_reducible apply wpl_loadcellN); (exact rfl); infer_instance; (exact rfl)))
  have hrp : HR wb (some ⟨zp, 0, none⟩) (cellsOf ([⟨n, 1⟩, ⟨m, 1⟩] : List PinR)) := HB.rowsT (inferInstance : HB wb zp 46 (cellsOf ([⟨n, 1⟩, ⟨m, 1⟩] : List PinR)).toArray)
  refine (EncodeSnap_calls 1 0 (P := [⟨n, 1⟩, ⟨m, 1⟩]) (n := 2) (c := 2) rfl (by decide)).mono ?_
  rw [snap2 HR2.out.symm HR3.out.symm]
  intro e w7 h7
  obtain ⟨_, A7, n7, c7, rfl⟩ := h7.uniT
  have hza7 : HB w7 za 80 (RowC.enc a).toArray := inferInstance
  have hzb7 : HB w7 zb 80 (RowC.enc b).toArray := inferInstance
  obtain ⟨Z, hZ⟩ : ∃ Z, Z = Op.bytesLess n m := ⟨_, rfl⟩
  rw [← hZ]
  obtain ⟨E3, hE3⟩ : ∃ E : Int, E = if Z = true then 0 else 1 := ⟨_, rfl⟩
  rw [← hE3]
  have q3 : (E3 == 0) = Z := by rw [hE3, ifz]
  have z3 : Op.bytesLess (strL n).toList (strL m).toList = Z := by rw [strL_list, strL_list]; exact hZ.symm
  clear hE3 h7 hza hzb hrp hZ
  obtain ⟨X1, hX1⟩ : ∃ X, X = Op.bytesLess a.l b.l := ⟨_, rfl⟩
  obtain ⟨X2, hX2⟩ : ∃ X, X = Op.bytesLess b.l a.l := ⟨_, rfl⟩
  obtain ⟨Y1, hY1⟩ : ∃ X, X = Op.bytesLess a.ecu b.ecu := ⟨_, rfl⟩
  obtain ⟨Y2, hY2⟩ : ∃ X, X = Op.bytesLess b.ecu a.ecu := ⟨_, rfl⟩
  obtain ⟨E, hE⟩ : ∃ E, E = (a.l == b.l) := ⟨_, rfl⟩
  have hEd : decide (a.l = b.l) = E := by rw [hE, Bool.eq_iff_iff]; simp
  have hEd2 : decide (b.l = a.l) = E := by
    rw [← hEd]
    exact decide_eq_decide.2 ⟨Eq.symm, Eq.symm⟩
  have q1 : (E1 == 0) = (X1 || (E && Y1)) := by rw [Q1.out, tgLt, hEd, hX1, hY1]
  have q2 : (E2 == 0) = (X2 || (E && Y2)) := by rw [Q2.out, tgLt, hEd2, hX2, hY2]
  have x1 : Op.bytesLess (strL a.l).toList (strL b.l).toList = X1 := by rw [strL_list, strL_list]; exact hX1.symm
  have x2 : Op.bytesLess (strL b.l).toList (strL a.l).toList = X2 := by rw [strL_list, strL_list]; exact hX2.symm
  have y1 : Op.bytesLess (strL a.ecu).toList (strL b.ecu).toList = Y1 := by rw [strL_list, strL_list]; exact hY1.symm
  have y2 : Op.bytesLess (strL b.ecu).toList (strL a.ecu).toList = Y2 := by rw [strL_list, strL_list]; exact hY2.symm
  have xe : ((strL a.l).toList == (strL b.l).toList) = E := by rw [strL_list, strL_list]; exact hE.symm
  clear hX1 hX2 hY1 hY2 hE hEd hEd2 Q1 Q2
  cases X1 <;> cases E <;> cases X2
  all_goals
    simp only [Bool.true_or, Bool.false_or, Bool.true_and, Bool.false_and] at q1 q2
    go_wp2_with (first | go_skip | ((with_reducible apply (wpl_loadcellN (k := 0))); (exact rfl); (first | (exact hza7) | (exact hzb7)); (exact tgc_0 _)) | ((with_reducible apply (wpl_loadcellN (k := 36))); (exact rfl); (first | (exact hza7) | (exact hzb7)); (exact tgc_36 _)) | ((with_reducible apply (wpl_guard (op := .call _))); (exact rfl)) | ((with_reducible apply (wpl_guard (op := .load _ _))); (exact rfl)) | ((with_reducible apply wpl_box_agg); (exact rfl); intro z wz _ _ _) | ((with_reducible apply wpl_box_int); (exact rfl); intro z wz _ _ _) | ((with_reducible apply wpl_box_slice); (exact rfl); intro z wz _ _ _) | ((with_reducible apply wpl_box_str); (exact rfl); intro z wz _ _ _) | ((with_reducible apply wpl_box_bool); (exact rfl); intro z wz _ _ _) | ((with_reducible apply wpl_box_ptr); (exact rfl); intro z wz _ _ _) | ((with_reducible apply (wpl_guard (op := .load _ _))); (exact rfl)) | ((with_reducible apply (wpl_guard (op := .fieldAddr _ _ _))); (exact rfl)) | ((with_reducible apply wpl_loadrow); (exact rfl); infer_instance; infer_instance; (first | (with_reducible assumption) | (with_reducible exact H32.size _) | (with_reducible exact enc_sz _ rfl) | kernel_rfl)) | ((with_reducible apply wpl_loadcellN); (exact rfl); infer_instance; (exact rfl)))
    refine (wknown_calls _).mono ?_
    rintro e w8 ⟨rfl, _⟩
    go_wp2_with (first | go_skip | ((with_reducible apply wpl_box_agg); (exact rfl); intro z wz _ _ _) | ((with_reducible apply wpl_box_int); (exact rfl); intro z wz _ _ _) | ((with_reducible apply wpl_box_slice); (exact rfl); intro z wz _ _ _) | ((with_reducible apply wpl_box_str); (exact rfl); intro z wz _ _ _) | ((with_reducible apply wpl_box_bool); (exact rfl); intro z wz _ _ _) | ((with_reducible apply wpl_box_ptr); (exact rfl); intro z wz _ _ _) | ((with_reducible apply (wpl_guard (op := .load _ _))); (exact rfl)) | ((with_reducible apply (wpl_guard (op := .fieldAddr _ _ _))); (exact rfl)) | ((with_reducible apply wpl_loadrow); (exact rfl); infer_instance; infer_instance; (first | (with_reducible assumption) | (with_reducible exact H32.size _) | (with_reducible exact enc_sz _ rfl) | kernel_rfl)) | ((with_reducible apply wpl_loadcellN); (exact rfl); infer_instance; (exact rfl)))
    go_ret
    exact ⟨rfl, (stepN (w0 := w)).chg⟩
end Go.Proofs.Ythcleccofccbdaa
