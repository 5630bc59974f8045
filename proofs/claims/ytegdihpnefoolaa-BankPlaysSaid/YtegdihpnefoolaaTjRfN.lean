/- RfN -/
import Derived.Test.YtegdihpnefoolaaTjRfC
open Go Go.RowKit
namespace Go.Proofs.Ytegdihpnefoolaa
def zrowF (z : Nat) (A : Option Addr) : Nat → Prop := fun x => x = z ∨ rowOf A x
instance (w : World) (z : Nat) (A : Option Addr) : Sub w (only z) (zrowF z A) := ⟨fun _ _ h => .inl h⟩
instance (w : World) (z : Nat) (A : Option Addr) : Sub w (rowOf A) (zrowF z A) := ⟨fun _ _ h => .inr h⟩
instance (w : World) (z : Nat) (A : Option Addr) : Into w (only z) (zrowF z A) := ⟨fun _ _ h => .inl h⟩
instance (w : World) (z : Nat) (A : Option Addr) : Into w (rowOf A) (zrowF z A) := ⟨fun _ _ h => .inr h⟩
instance : ZeroT Try.prog 63 #[.slice none 0 0, .int .i64 0, .int .i64 0, .bool false] := ⟨.agg #[.slice none 0 0, .int .i64 0, .int .i64 0, .bool false], fun _ => by kernel_rfl, rfl⟩
/-- a page more -/
theorem RFAt.grow {w w' : World} {x : Nat} {A A' : Option Addr} {n c c' : Nat} {rows : List Row} {left : Int} {tear : Nat} {off : Bool} (h : RFAt w x A n c rows left tear off) (hc : Chg (zrowF x A) w w') (hA : A' = A ∨ ∀ ad, A' = some ad → w.heap.size ≤ ad.block) {r : Row} (hr : ∀ ad, r.A = some ad → w.heap.size ≤ ad.block)
    (ho : Own w' 5 1 r.A 64 r.c (bs r.p)) (hl : r.p.length = 64) (hh : Blk w' x 63 #[.slice A' (n + 1) c', .int .i64 left, .int .i64 tear, .bool off]) (ht : Own w' 22 1 A' (n + 1) c' (cellsOf (rows ++ [r]))) (hrt : OffA (rowOf r.A) A') (hm : n + 1 ≤ 256) :
    RFAt w' x A' (n + 1) c' (rows ++ [r]) left tear off := by
  have hx := h.head.lt
  have hlt : ∀ q ∈ rows, ∀ ad, q.A = some ad → ad.block < w.heap.size := fun q hq ad e => (h.each q hq).lt e
  refine ⟨hh, ht, by rw [List.length_append, h.num]; rfl, ?_, ?_, ?_, ?_, ?_, ?_, hm, h.torn⟩
  · intro q hq
    rcases List.mem_append.1 hq with hq | hq
    · exact (h.each q hq).chg hc (fun ad e hk => hk.elim (fun hk => (h.rowx q hq).out ⟨ad, e, hk⟩) (fun ⟨bd, eb, hk⟩ => (h.rowt q hq).out bd eb ⟨ad, e, hk.symm⟩))
    · rw [List.mem_singleton.1 hq]; exact ho
  · intro q hq
    rcases List.mem_append.1 hq with hq | hq
    · exact h.len q hq
    · rw [List.mem_singleton.1 hq]; exact hl
  · refine ⟨fun ⟨ad, e, hk⟩ => ?_⟩
    rcases hA with hA | hA
    · rw [hA] at e
      exact h.tabx.out ⟨ad, e, hk⟩
    · have := hA ad e
      omega
  · intro q hq
    rcases List.mem_append.1 hq with hq | hq
    · exact h.rowx q hq
    · rw [List.mem_singleton.1 hq]
      refine ⟨fun ⟨ad, e, hk⟩ => ?_⟩
      have := hr ad e
      omega
  · intro q hq
    rcases List.mem_append.1 hq with hq | hq
    · refine ⟨fun ad e ⟨bd, eb, hk⟩ => ?_⟩
      rcases hA with hA | hA
      · rw [hA] at e
        exact (h.rowt q hq).out ad e ⟨bd, eb, hk⟩
      · have h1 := hA ad e
        have h2 := hlt q hq bd eb
        omega
    · rw [List.mem_singleton.1 hq]; exact hrt
  · intro i j hi hj hij
    have g1 : ∀ k, k < n → gt (rows ++ [r]) k = gt rows k := fun k hk => by simp [gt, List.getD_eq_getElem?_getD, List.getElem?_append_left (show k < rows.length by rw [h.num]; exact hk)]
    have g2 : gt (rows ++ [r]) n = r := by
      rw [← h.num]
      simp [gt, List.getD_eq_getElem?_getD]
    by_cases hi1 : i < n
    · rw [g1 i hi1]
      by_cases hj1 : j < n
      · rw [g1 j hj1]; exact h.rows2 i j hi1 hj1 hij
      · obtain rfl : j = n := by omega
        rw [g2]
        refine ⟨fun ad e ⟨bd, eb, hk⟩ => ?_⟩
        have h1 := hr ad e
        have h2 := hlt _ (gt_mem rows i (by rw [h.num]; exact hi1)) bd eb
        omega
    · obtain rfl : i = n := by omega
      have hj1 : j < i := by omega
      rw [g2, g1 j hj1]
      refine ⟨fun ad e ⟨bd, eb, hk⟩ => ?_⟩
      have h1 := hr bd eb
      have h2 := hlt _ (gt_mem rows j (by rw [h.num]; exact hj1)) ad e
      omega
theorem run_one255 (w : World) : (Instr.buildSlice 22 1 #[(0, .int .u8 255)]).run Try.prog w = .ok (.slice (some ⟨w.heap.size, 0, none⟩) 1 1) (w.alloc (.cells (u8s [255]) 5)) := by kernel_rfl
theorem run_oneRow (A : Option Addr) (c : Nat) (w : World) : (Instr.buildSlice 61 1 #[(0, .slice A 64 c)]).run Try.prog w = .ok (.slice (some ⟨w.heap.size, 0, none⟩) 1 1) (w.alloc (.cells #[.slice A 64 c] 22)) := by kernel_rfl
theorem HR.ofBlkF {w : World} {z : Nat} {t : TypeId} {cs : Array Value} (h : HB w z t cs) : HR w (some ⟨z, 0, none⟩) cs.toList := ⟨fun k u hk => by
  refine ⟨_, rfl, ?_⟩
  rw [add_row, h.out.cell k]
  simpa using hk⟩
theorem rowRow {w : World} {z : Nat} {t : TypeId} {r : Row} (hl : r.p.length = 64) (h : HB w z t #[.slice r.A 64 r.c]) : HR w (some ⟨z, 0, none⟩) (cellsOf [r]) := by
  have h1 := HR.ofBlkF h
  have e : cellsOf [r] = (#[.slice r.A 64 r.c] : Array Value).toList := by
    show [Value.slice r.A r.p.length r.c] = _
    rw [hl]
  rw [e]
  exact h1
instance (priority := 700) OffA.ofBF (z : Nat) (A : Option Addr) [o : OffB (rowOf A) z] : OffA (only z) A := ⟨fun ad e h => o.out ⟨ad, e, h⟩⟩
instance OffA.growF (w : World) (A A' B : Option Addr) (e : TypeId) (size n c : Nat) (xs : List Value) [k : Grew w A A'] [h : HO w e size B n c xs] [o : OffA (rowOf B) A] : OffA (rowOf B) A' := ⟨fun ad ea ⟨bd, eb, hk⟩ => by
  rcases k.out with h1 | h1
  · rw [h1] at ea
    exact o.out ad ea ⟨bd, eb, hk⟩
  · rw [h1] at ea
    injection ea with ea
    have h2 := h.out.lt eb
    rw [hk, ← ea] at h2
    exact absurd h2 (Nat.lt_irrefl _)⟩
def RFS.fresh (N : Nat) : RFS := ⟨List.replicate N (ones 64), -1, 0, false⟩
set_option maxRecDepth 100000 in
set_option maxHeartbeats 1600000 in
theorem rfNew_calls (n : Int) (N : Nat) (hN : min (max n 1) 256 = (N : Int)) (w : World) :
    Calls Try.prog 12 #[.int .i64 n] w fun e w' => ∃ x T, e = .returned (.pointer (some ⟨x, 0, none⟩)) ∧ RF w' x T (RFS.fresh N) ∧ Step nowhere w w' ∧ (∀ k, T k → w.heap.size ≤ k ∧ k < w'.heap.size) := by
  have HN := Lib.hid hN
  have hN256 : N ≤ 256 := by omega
  clear hN
  have kbF : ∀ w, (Instr.build 63 #[(1, .int .i64 (-1))]).run Try.prog w = .ok (.agg #[.slice none 0 0, .int .i64 (-1), .int .i64 0, .bool false]) w := fun _ => by kernel_rfl
  go_enter Try.func12, Try.ntmps12
  go_wp2_with (first | ((with_reducible apply wpl_build); (exact kbF _)) | ((with_reducible apply (wpl_box_agg (dst := some 8))); (exact rfl); intro zx wzx _ _ _) | ((with_reducible apply (wpl_box_int (dst := some 8))); (exact rfl); intro zx wzx _ _ _) | ((with_reducible apply (wpl_box_slice (dst := some 8))); (exact rfl); intro zx wzx _ _ _) | ((with_reducible apply (wpl_box_str (dst := some 8))); (exact rfl); intro zx wzx _ _ _) | ((with_reducible apply (wpl_box_bool (dst := some 8))); (exact rfl); intro zx wzx _ _ _) | ((with_reducible apply (wpl_box_ptr (dst := some 8))); (exact rfl); intro zx wzx _ _ _) | ((with_reducible apply wpl_box_agg); (exact rfl); intro z wz _ _ _) | ((with_reducible apply wpl_box_int); (exact rfl); intro z wz _ _ _) | ((with_reducible apply wpl_box_slice); (exact rfl); intro z wz _ _ _) | ((with_reducible apply wpl_box_str); (exact rfl); intro z wz _ _ _) | ((with_reducible apply wpl_box_bool); (exact rfl); intro z wz _ _ _) | ((with_reducible apply wpl_box_ptr); (exact rfl); intro z wz _ _ _) | ((with_reducible apply wpl_loadrow); (exact rfl); infer_instance; infer_instance; (first | (with_reducible assumption) | (with_reducible exact H32.size _) | kernel_rfl)) | ((with_reducible apply wpl_loadcellN); (exact rfl); infer_instance; (exact rfl)) | ((with_reducible apply wpl_storerow); (exact rfl); (exact rfl); infer_instance; infer_instance; (first | (with_reducible assumption) | (with_reducible exact H32.size _) | kernel_rfl); (first | (with_reducible assumption) | (with_reducible exact H32.size _) | kernel_rfl); (first | (with_reducible exact u8s_one _) | (with_reducible assumption) | kernel_rfl); intro ws _ _) | ((with_reducible apply wpl_storecell); (exact rfl); (exact rfl); infer_instance; (exact rfl); (first | (with_reducible assumption) | omega | (focus (simp; done)) | (focus (simp; omega; done)) | decide); intro ws _ _))
  go_loopw [4, 5, 6] (fun kv bv mv wr => ∃ (k c : Nat) (A : Option Addr) (rows : List Row), k ≤ N ∧ kv = .int .i64 (k : Int) ∧ Step nowhere w wr ∧ HB wr zx 63 #[.slice A k c, .int .i64 (-1), .int .i64 0, .bool false] ∧ HO wr 22 1 A k c (cellsOf rows) ∧ NewA w A ∧ OffB (rowOf A) zx ∧ Hid (RFAt wr zx A k c rows (-1) 0 false) ∧ Hid (rows.map Row.p = List.replicate k (ones 64)) ∧ Hid (∀ r ∈ rows, ∀ ad, r.A = some ad → w.heap.size ≤ ad.block)) (fun kv _ _ _ => N - (intOf kv).toNat)
  case atStart =>
    have hx := (inferInstance : HB wzx zx 63 #[.slice none 0 0, .int .i64 (-1), .int .i64 0, .bool false]).out
    exact ⟨0, 0, none, [], Nat.zero_le _, rfl, stepN, inferInstance, ⟨Own.nil _ _ _⟩, NewA.of_none _, inferInstance, Lib.hid ⟨hx, Own.nil _ _ _, rfl, fun r h => by (cases h), fun r h => by (cases h), inferInstance, fun r h => by (cases h), fun r h => by (cases h), fun i j h => by omega, by decide, by decide⟩, Lib.hid rfl, Lib.hid (fun r h => by cases h)⟩
  case round =>
    obtain ⟨k, c, A, rows, hk, rfl, _, _, _, _, _, HRF, HRP, HNW⟩ := hrel
    by_cases hlt : k < N
    · have hltI : (k : Int) < (N : Int) := by omega
      go_wp2_with (first | ((with_reducible apply wpl_mineq); (exact rfl); (exact rfl); (exact HN.out)) | ((with_reducible apply wpl_max); (exact rfl); (exact rfl)) | ((with_reducible apply wpl_box_agg); (exact rfl); intro z wz _ _ _) | ((with_reducible apply wpl_box_int); (exact rfl); intro z wz _ _ _) | ((with_reducible apply wpl_box_slice); (exact rfl); intro z wz _ _ _) | ((with_reducible apply wpl_box_str); (exact rfl); intro z wz _ _ _) | ((with_reducible apply wpl_box_bool); (exact rfl); intro z wz _ _ _) | ((with_reducible apply wpl_box_ptr); (exact rfl); intro z wz _ _ _) | ((with_reducible apply wpl_loadrow); (exact rfl); infer_instance; infer_instance; (first | (with_reducible assumption) | (with_reducible exact H32.size _) | kernel_rfl)) | ((with_reducible apply wpl_loadcellN); (exact rfl); infer_instance; (exact rfl)) | ((with_reducible apply wpl_storerow); (exact rfl); (exact rfl); infer_instance; infer_instance; (first | (with_reducible assumption) | (with_reducible exact H32.size _) | kernel_rfl); (first | (with_reducible assumption) | (with_reducible exact H32.size _) | kernel_rfl); (first | (with_reducible exact u8s_one _) | (with_reducible assumption) | kernel_rfl); intro ws _ _) | ((with_reducible apply wpl_storecell); (exact rfl); (exact rfl); infer_instance; (exact rfl); (first | (with_reducible assumption) | omega | (focus (simp; done)) | (focus (simp; omega; done)) | decide); intro ws _ _))
      obtain ⟨w4, hw4⟩ : ∃ x, x = wr := ⟨_, rfl⟩
      subst hw4
      go_loopw [5, 6] (fun bv mv w2 => ∃ (m cb : Nat) (B : Option Addr) (d : List UInt8), m ≤ 64 ∧ bv = .slice B m cb ∧ mv = .int .i64 (m : Int) ∧ Nw w4 w2 ∧ HB w2 zx 63 #[.slice A k c, .int .i64 (-1), .int .i64 0, .bool false] ∧ HO w2 22 1 A k c (cellsOf rows) ∧ HO w2 5 1 B m cb (bs d) ∧ NewA w4 B ∧ Hid (d = List.replicate m 255)) (fun _ mv _ => 64 - (intOf mv).toNat)
      case atStart => exact ⟨0, 0, none, [], Nat.zero_le _, rfl, rfl, inferInstance, inferInstance, inferInstance, ⟨Own.nil _ _ _⟩, NewA.of_none _, Lib.hid rfl⟩
      case round =>
        obtain ⟨m, cb, B, d, hm, rfl, rfl, _, _, _, _, _, HD⟩ := hrel
        by_cases hm2 : m < 64
        · have hmI : (m : Int) < 64 := by omega
          go_wp2_with (first | ((with_reducible apply (stop_dst (dst := some 21))); (try simp only [Act.put, sA, sB, sC]); ((with_reducible apply (wpl_bslice (dst := some 21))); (exact run_one255 _); intro zb wb _ _ _)) | ((with_reducible apply wpl_appendB); (exact rfl); (exact rfl); infer_instance; infer_instance; (exact HR.ofBlk _ _ _ _); (exact rfl); (omega); intro B2 cb2 wa _ hO2 hG2 _) | ((with_reducible apply wpl_box_agg); (exact rfl); intro z wz _ _ _) | ((with_reducible apply wpl_box_int); (exact rfl); intro z wz _ _ _) | ((with_reducible apply wpl_box_slice); (exact rfl); intro z wz _ _ _) | ((with_reducible apply wpl_box_str); (exact rfl); intro z wz _ _ _) | ((with_reducible apply wpl_box_bool); (exact rfl); intro z wz _ _ _) | ((with_reducible apply wpl_box_ptr); (exact rfl); intro z wz _ _ _) | ((with_reducible apply wpl_loadrow); (exact rfl); infer_instance; infer_instance; (first | (with_reducible assumption) | (with_reducible exact H32.size _) | kernel_rfl)) | ((with_reducible apply wpl_loadcellN); (exact rfl); infer_instance; (exact rfl)) | ((with_reducible apply wpl_storerow); (exact rfl); (exact rfl); infer_instance; infer_instance; (first | (with_reducible assumption) | (with_reducible exact H32.size _) | kernel_rfl); (first | (with_reducible assumption) | (with_reducible exact H32.size _) | kernel_rfl); (first | (with_reducible exact u8s_one _) | (with_reducible assumption) | kernel_rfl); intro ws _ _) | ((with_reducible apply wpl_storecell); (exact rfl); (exact rfl); infer_instance; (exact rfl); (first | (with_reducible assumption) | omega | (focus (simp; done)) | (focus (simp; omega; done)) | decide); intro ws _ _))
          have HD2 : Hid (d ++ [255] = List.replicate (m + 1) 255) := Lib.hid (by rw [List.replicate_succ', HD.out])
          refine ⟨⟨m + 1, cb2, B2, d ++ [255], by omega, rfl, by go_num, inferInstance, inferInstance, inferInstance, inferInstance, inferInstance, HD2⟩, by simp [intOf]; omega⟩
        · obtain rfl : m = 64 := by omega
          have hk9 : k + 1 ≤ 1000000000 := by omega
          have hl64 : d.length = 64 := by rw [HD.out, List.length_replicate]
          have s0 : Step nowhere w4 wr := ⟨(inferInstance : Nw w4 wr).out⟩
          have oBA : OffA (rowOf B) A := inferInstance
          have oBx : OffB (rowOf B) zx := inferInstance
          have oAB : OffA (rowOf A) B := inferInstance
          have oxB : OffA (only zx) B := inferInstance
          have kbR := run_oneRow B cb
          go_wp2_with (first | ((with_reducible apply (stop_dst (dst := some 29))); (try simp only [Act.put, sA, sB, sC]); ((with_reducible apply (wpl_bslice (dst := some 29))); (exact kbR _); intro zt wb _ _ _)) | ((with_reducible apply (wpl_appendR (α := Row))); (exact rfl); (exact rfl); infer_instance; infer_instance; (exact rowRow (r := ⟨B, cb, d⟩) hl64 inferInstance); (exact rfl); (exact rfl); (exact hk9); (decide); (decide); intro A2 c2 wa _ hO2 hG2 _) | ((with_reducible apply wpl_box_agg); (exact rfl); intro z wz _ _ _) | ((with_reducible apply wpl_box_int); (exact rfl); intro z wz _ _ _) | ((with_reducible apply wpl_box_slice); (exact rfl); intro z wz _ _ _) | ((with_reducible apply wpl_box_str); (exact rfl); intro z wz _ _ _) | ((with_reducible apply wpl_box_bool); (exact rfl); intro z wz _ _ _) | ((with_reducible apply wpl_box_ptr); (exact rfl); intro z wz _ _ _) | ((with_reducible apply wpl_loadrow); (exact rfl); infer_instance; infer_instance; (first | (with_reducible assumption) | (with_reducible exact H32.size _) | kernel_rfl)) | ((with_reducible apply wpl_loadcellN); (exact rfl); infer_instance; (exact rfl)) | ((with_reducible apply wpl_storerow); (exact rfl); (exact rfl); infer_instance; infer_instance; (first | (with_reducible assumption) | (with_reducible exact H32.size _) | kernel_rfl); (first | (with_reducible assumption) | (with_reducible exact H32.size _) | kernel_rfl); (first | (with_reducible exact u8s_one _) | (with_reducible assumption) | kernel_rfl); intro ws _ _) | ((with_reducible apply wpl_storecell); (exact rfl); (exact rfl); infer_instance; (exact rfl); (first | (with_reducible assumption) | omega | (focus (simp; done)) | (focus (simp; omega; done)) | decide); intro ws _ _))
          have c1 : Chg (zrowF zx A) w4 ws := (inferInstance : Ch (zrowF zx A) w4 ws).out
          have hA2 : A2 = A ∨ ∀ ad, A2 = some ad → w4.heap.size ≤ ad.block := by
            rcases hG2.out with h | h
            · exact .inl h
            · refine .inr (fun ad e => ?_)
              rw [h] at e
              injection e with e
              rw [← e]
              exact (inferInstance : SzLe w4 _).out
          have hBn : ∀ ad, B = some ad → w4.heap.size ≤ ad.block := (inferInstance : NewA w4 B).out
          have hoB : HO ws 5 1 B 64 cb (bs d) := inferInstance
          have hhx : HB ws zx 63 #[.slice A2 (k + 1) c2, .int .i64 (-1), .int .i64 0, .bool false] := inferInstance
          have htA : HO ws 22 1 A2 (k + 1) c2 (cellsOf (rows ++ [⟨B, cb, d⟩])) := inferInstance
          have oBA2 : OffA (rowOf B) A2 := inferInstance
          have HRF2 : Hid (RFAt ws zx A2 (k + 1) c2 (rows ++ [⟨B, cb, d⟩]) (-1) 0 false) := Lib.hid (HRF.out.grow c1 hA2 hBn hoB.out hl64 hhx.out htA.out oBA2 (by omega))
          have HRP2 : Hid ((rows ++ [(⟨B, cb, d⟩ : Row)]).map Row.p = List.replicate (k + 1) (ones 64)) := Lib.hid (by
            rw [List.map_append, HRP.out, List.replicate_succ', HD.out]
            rfl)
          have hw4 : w.heap.size ≤ w4.heap.size := (inferInstance : SzLe w w4).out
          have HNW2 : Hid (∀ r ∈ rows ++ [(⟨B, cb, d⟩ : Row)], ∀ ad, r.A = some ad → w.heap.size ≤ ad.block) := Lib.hid (fun r hr ad e => by
            rcases List.mem_append.1 hr with hr | hr
            · exact HNW.out r hr ad e
            · rw [List.mem_singleton.1 hr] at e
              exact Nat.le_trans hw4 (hBn ad e))
          have hNA : NewA w A2 := inferInstance
          have hOx : OffB (rowOf A2) zx := inferInstance
          have n1 : Nw w ws := inferInstance
          clear HRF HRP HNW c1 hA2
          go_wp2_with (first | ((with_reducible apply wpl_box_agg); (exact rfl); intro z wz _ _ _) | ((with_reducible apply wpl_box_int); (exact rfl); intro z wz _ _ _) | ((with_reducible apply wpl_box_slice); (exact rfl); intro z wz _ _ _) | ((with_reducible apply wpl_box_str); (exact rfl); intro z wz _ _ _) | ((with_reducible apply wpl_box_bool); (exact rfl); intro z wz _ _ _) | ((with_reducible apply wpl_box_ptr); (exact rfl); intro z wz _ _ _) | ((with_reducible apply wpl_loadrow); (exact rfl); infer_instance; infer_instance; (first | (with_reducible assumption) | (with_reducible exact H32.size _) | kernel_rfl)) | ((with_reducible apply wpl_loadcellN); (exact rfl); infer_instance; (exact rfl)) | ((with_reducible apply wpl_storerow); (exact rfl); (exact rfl); infer_instance; infer_instance; (first | (with_reducible assumption) | (with_reducible exact H32.size _) | kernel_rfl); (first | (with_reducible assumption) | (with_reducible exact H32.size _) | kernel_rfl); (first | (with_reducible exact u8s_one _) | (with_reducible assumption) | kernel_rfl); intro ws _ _) | ((with_reducible apply wpl_storecell); (exact rfl); (exact rfl); infer_instance; (exact rfl); (first | (with_reducible assumption) | omega | (focus (simp; done)) | (focus (simp; omega; done)) | decide); intro ws _ _))
          refine ⟨⟨k + 1, c2, A2, _, by omega, by go_num, ⟨n1.out⟩, hhx, htA, hNA, hOx, HRF2, HRP2, HNW2⟩, by simp [intOf]; omega⟩
    · have hkN : ¬ (k : Int) < (N : Int) := by omega
      obtain rfl : k = N := by omega
      go_wp2_with (first | ((with_reducible apply wpl_mineq); (exact rfl); (exact rfl); (exact HN.out)) | ((with_reducible apply wpl_max); (exact rfl); (exact rfl)) | ((with_reducible apply wpl_box_agg); (exact rfl); intro z wz _ _ _) | ((with_reducible apply wpl_box_int); (exact rfl); intro z wz _ _ _) | ((with_reducible apply wpl_box_slice); (exact rfl); intro z wz _ _ _) | ((with_reducible apply wpl_box_str); (exact rfl); intro z wz _ _ _) | ((with_reducible apply wpl_box_bool); (exact rfl); intro z wz _ _ _) | ((with_reducible apply wpl_box_ptr); (exact rfl); intro z wz _ _ _) | ((with_reducible apply wpl_loadrow); (exact rfl); infer_instance; infer_instance; (first | (with_reducible assumption) | (with_reducible exact H32.size _) | kernel_rfl)) | ((with_reducible apply wpl_loadcellN); (exact rfl); infer_instance; (exact rfl)) | ((with_reducible apply wpl_storerow); (exact rfl); (exact rfl); infer_instance; infer_instance; (first | (with_reducible assumption) | (with_reducible exact H32.size _) | kernel_rfl); (first | (with_reducible assumption) | (with_reducible exact H32.size _) | kernel_rfl); (first | (with_reducible exact u8s_one _) | (with_reducible assumption) | kernel_rfl); intro ws _ _) | ((with_reducible apply wpl_storecell); (exact rfl); (exact rfl); infer_instance; (exact rfl); (first | (with_reducible assumption) | omega | (focus (simp; done)) | (focus (simp; omega; done)) | decide); intro ws _ _))
      go_ret
      have hzN : w.heap.size ≤ zx := by
        rw [(inferInstance : Born _ zx).eq]
        exact (inferInstance : SzLe w _).out
      have hAN := (inferInstance : NewA w A).out
      refine ⟨zx, rfl, fun j => w.heap.size ≤ j ∧ j < wr.heap.size, ⟨A, k, c, rows, HRF.out, HRP.out, ⟨hzN, HRF.out.head.lt⟩, ?_, ?_⟩, stepN, fun _ h => h⟩
      · rintro _ ⟨ad, e, rfl⟩
        exact ⟨hAN ad e, HRF.out.tab.lt e⟩
      · rintro r hr _ ⟨ad, e, rfl⟩
        exact ⟨HNW.out r hr ad e, (HRF.out.each r hr).lt e⟩
end Go.Proofs.Ytegdihpnefoolaa
