/- RpB -/
import Derived.Test.YteieielodooglaaGreatTpRpA
open Go Go.RowKit
namespace Go.Proofs.YteieielodooglaaGreat
set_option maxRecDepth 100000 in
set_option maxHeartbeats 1600000 in
theorem insE_calls {A : Option Addr} {n c z c2 : Nat} {L : List EnrR} (r : EnrR) {w : World} [ho : HO w 114 71 A n c (cellsOf L)] [hb : HR w (some ⟨z, 0, none⟩) (cellsOf [r])] (hl : L.length = n) (hn : n ≤ 1000000) :
    Calls Tryz.prog 51 #[.slice A n c, .int .i64 (n : Int), .slice (some ⟨z, 0, none⟩) 1 c2] w fun e w' => ∃ A' c', e = .returned (.slice A' (n + 1) c') ∧ Step (rowOf A) w w' ∧ HO w' 114 71 A' (n + 1) c' (cellsOf (L ++ [r])) ∧ Grew w A A' ∧ Hid (n + 1 ≤ c') := by
  have hrl : HR w A (cellsOf L) := ⟨ho.out.rd⟩
  go_enter Tryz.func51, Tryz.ntmps51
  go_wp2_with (first | ((with_reducible apply (wpl_sl_l (k := n))); (exact rfl); (exact rfl); infer_instance; (exact Nat.le_refl _)) | ((with_reducible apply (wpl_appendR (α := EnrR))); (exact rfl); (exact rfl); infer_instance; (exact ho); (exact hb); (exact rfl); (exact rfl); omega; (decide); (decide); intro A2 c3 wa st2 ho2 hG hcap2) | ((with_reducible apply wpl_copy); (exact Tryz.underlying29); (kernel_rfl); (exact rfl); (exact rfl); infer_instance; infer_instance; (first | (with_reducible assumption) | (with_reducible exact H32.len _) | (focus (simp; done))); (first | (with_reducible assumption) | omega); (first | (with_reducible assumption) | omega | (focus (simp; done)) | (focus (simp; omega; done)) | decide); intro wc _ _) | ((with_reducible apply wpl_sl_lh); (exact rfl); (exact rfl); (exact rfl); infer_instance; (first | (with_reducible assumption) | omega); (first | (with_reducible assumption) | omega)) | ((with_reducible apply wpl_sl_h); (exact rfl); (exact rfl); infer_instance; (first | (with_reducible assumption) | omega)) | ((with_reducible apply wpl_sl_l); (exact rfl); (exact rfl); infer_instance; (first | (with_reducible assumption) | omega)) | ((with_reducible apply wpl_sliceH); (exact rfl); (exact Tryz.underlying23); (kernel_rfl); infer_instance; (first | (with_reducible assumption) | omega)) | ((with_reducible apply wpl_appendB); (exact rfl); (exact rfl); infer_instance; (first | exact inferInstance | exact ⟨Own.nil _ _ _⟩); infer_instance; (first | (with_reducible assumption) | (with_reducible exact H32.len _) | (focus (simp; done)) | omega); (first | (with_reducible assumption) | omega); intro A' c' wa _ _ _ hcap) | ((with_reducible apply wpl_appendH); (exact rfl); (exact rfl); infer_instance; (first | exact inferInstance | exact ⟨Own.nil _ _ _⟩); infer_instance; (first | (with_reducible assumption) | omega); intro A' c' wa _ _ _ hcap) | ((with_reducible apply (wpl_appendR (α := EnrR))); (exact rfl); (exact rfl); infer_instance; (first | exact inferInstance | exact ⟨Own.nil _ _ _⟩); infer_instance; (exact rfl); (first | (with_reducible assumption) | (with_reducible exact H32.len _) | (focus (simp; done)) | omega); (first | (with_reducible assumption) | omega); (decide); (decide); intro A' c' wa _ _ _ hcap) | ((with_reducible apply (wpl_appendR (α := TargetR))); (exact rfl); (exact rfl); infer_instance; (first | exact inferInstance | exact ⟨Own.nil _ _ _⟩); infer_instance; (exact rfl); (first | (with_reducible assumption) | (with_reducible exact H32.len _) | (focus (simp; done)) | omega); (first | (with_reducible assumption) | omega); (decide); (decide); intro A' c' wa _ _ _ hcap))
  go_ret
  exact ⟨A2, c3, rfl, st2, ho2, hG, Lib.hid hcap2⟩
set_option maxRecDepth 100000 in
set_option maxHeartbeats 1600000 in
theorem insR_calls {A : Option Addr} {n c z c2 : Nat} {L : List TargetR} (r : TargetR) {w : World} [ho : HO w 42 37 A n c (cellsOf L)] [hb : HR w (some ⟨z, 0, none⟩) (cellsOf [r])] (hl : L.length = n) (hn : n ≤ 1000000) :
    Calls Tryz.prog 46 #[.slice A n c, .int .i64 (n : Int), .slice (some ⟨z, 0, none⟩) 1 c2] w fun e w' => ∃ A' c', e = .returned (.slice A' (n + 1) c') ∧ Step (rowOf A) w w' ∧ HO w' 42 37 A' (n + 1) c' (cellsOf (L ++ [r])) ∧ Grew w A A' ∧ Hid (n + 1 ≤ c') := by
  have hrl : HR w A (cellsOf L) := ⟨ho.out.rd⟩
  go_enter Tryz.func46, Tryz.ntmps46
  go_wp2_with (first | ((with_reducible apply (wpl_sl_l (k := n))); (exact rfl); (exact rfl); infer_instance; (exact Nat.le_refl _)) | ((with_reducible apply (wpl_appendR (α := TargetR))); (exact rfl); (exact rfl); infer_instance; (exact ho); (exact hb); (exact rfl); (exact rfl); omega; (decide); (decide); intro A2 c3 wa st2 ho2 hG hcap2) | ((with_reducible apply wpl_copy); (exact Tryz.underlying29); (kernel_rfl); (exact rfl); (exact rfl); infer_instance; infer_instance; (first | (with_reducible assumption) | (with_reducible exact H32.len _) | (focus (simp; done))); (first | (with_reducible assumption) | omega); (first | (with_reducible assumption) | omega | (focus (simp; done)) | (focus (simp; omega; done)) | decide); intro wc _ _) | ((with_reducible apply wpl_sl_lh); (exact rfl); (exact rfl); (exact rfl); infer_instance; (first | (with_reducible assumption) | omega); (first | (with_reducible assumption) | omega)) | ((with_reducible apply wpl_sl_h); (exact rfl); (exact rfl); infer_instance; (first | (with_reducible assumption) | omega)) | ((with_reducible apply wpl_sl_l); (exact rfl); (exact rfl); infer_instance; (first | (with_reducible assumption) | omega)) | ((with_reducible apply wpl_sliceH); (exact rfl); (exact Tryz.underlying23); (kernel_rfl); infer_instance; (first | (with_reducible assumption) | omega)) | ((with_reducible apply wpl_appendB); (exact rfl); (exact rfl); infer_instance; (first | exact inferInstance | exact ⟨Own.nil _ _ _⟩); infer_instance; (first | (with_reducible assumption) | (with_reducible exact H32.len _) | (focus (simp; done)) | omega); (first | (with_reducible assumption) | omega); intro A' c' wa _ _ _ hcap) | ((with_reducible apply wpl_appendH); (exact rfl); (exact rfl); infer_instance; (first | exact inferInstance | exact ⟨Own.nil _ _ _⟩); infer_instance; (first | (with_reducible assumption) | omega); intro A' c' wa _ _ _ hcap) | ((with_reducible apply (wpl_appendR (α := EnrR))); (exact rfl); (exact rfl); infer_instance; (first | exact inferInstance | exact ⟨Own.nil _ _ _⟩); infer_instance; (exact rfl); (first | (with_reducible assumption) | (with_reducible exact H32.len _) | (focus (simp; done)) | omega); (first | (with_reducible assumption) | omega); (decide); (decide); intro A' c' wa _ _ _ hcap) | ((with_reducible apply (wpl_appendR (α := TargetR))); (exact rfl); (exact rfl); infer_instance; (first | exact inferInstance | exact ⟨Own.nil _ _ _⟩); infer_instance; (exact rfl); (first | (with_reducible assumption) | (with_reducible exact H32.len _) | (focus (simp; done)) | omega); (first | (with_reducible assumption) | omega); (decide); (decide); intro A' c' wa _ _ _ hcap))
  go_ret
  exact ⟨A2, c3, rfl, st2, ho2, hG, Lib.hid hcap2⟩
theorem run_bsE (r : EnrR) (w : World) : (Instr.buildSlice 105 1 #[(0, .agg (RowC.enc r).toArray)]).run Tryz.prog w = .ok (.slice (some ⟨w.heap.size, 0, none⟩) 1 1) (w.alloc (.cells (cellsOf [r]).toArray 114)) := by
  have hs : (RowC.enc r).toArray.size = 71 := RowC.len r
  have hz : ∀ w, (zeroValue 114).run Tryz.prog w = .ok (.agg zeroEn) w := fun _ => by kernel_rfl
  have hi : ∀ w, (sizeOf 114).run Tryz.prog w = .ok 71 w := fun _ => by kernel_rfl
  have hz1 : zeroEn.size = 71 := by kernel_rfl
  have he : (cellsOf [r]).toArray = (RowC.enc r).toArray.toList.toArray := by simp [cellsOf]
  rw [he]
  obtain ⟨Z, hZ⟩ : ∃ Z : Array Value, Z = zeroEn := ⟨_, rfl⟩
  obtain ⟨R, hR⟩ : ∃ R : Array Value, R = (RowC.enc r).toArray := ⟨_, rfl⟩
  rw [← hZ] at hz hz1
  rw [← hR] at hs ⊢
  clear hZ hR he
  unfold Instr.buildSlice
  simp only [Sem.run_bind, run_underlying Tryz.underlying105, Result.andThen_ok, hi]
  obtain ⟨W, hW⟩ : ∃ W : Array Value, W = (Array.range (1 * 71)).map (Z[· % Z.size]!) := ⟨_, rfl⟩
  have hWs : W.size = 71 := by rw [hW]; simp
  have hf : Instr.fill (fun i => some (i * 71, 71)) W [(0, Value.agg R)] = some R.toList.toArray := by
    rw [fill_step _ _ 0 (.agg R) _ (off := 0) (size := 71) rfl hs (by rw [hWs]; decide)]
    have e : lay 0 R W = R.toList.toArray := by
      unfold lay
      congr 1
      simp only [List.take_zero, List.nil_append, Nat.zero_add, hs]
      rw [List.drop_of_length_le (by simp [hWs]), List.append_nil]
    show Instr.fill _ (lay 0 R W) [] = _
    rw [e]
    rfl
  rw [hW] at hf
  simp [hz, Value.cells, hf, newRow]
theorem run_bsR (r : TargetR) (w : World) : (Instr.buildSlice 40 1 #[(0, .agg (RowC.enc r).toArray)]).run Tryz.prog w = .ok (.slice (some ⟨w.heap.size, 0, none⟩) 1 1) (w.alloc (.cells (cellsOf [r]).toArray 42)) := by
  have hs : (RowC.enc r).toArray.size = 37 := RowC.len r
  have hz : ∀ w, (zeroValue 42).run Tryz.prog w = .ok (.agg zeroTg) w := fun _ => by kernel_rfl
  have hi : ∀ w, (sizeOf 42).run Tryz.prog w = .ok 37 w := fun _ => by kernel_rfl
  have hz1 : zeroTg.size = 37 := by kernel_rfl
  have he : (cellsOf [r]).toArray = (RowC.enc r).toArray.toList.toArray := by simp [cellsOf]
  rw [he]
  obtain ⟨Z, hZ⟩ : ∃ Z : Array Value, Z = zeroTg := ⟨_, rfl⟩
  obtain ⟨R, hR⟩ : ∃ R : Array Value, R = (RowC.enc r).toArray := ⟨_, rfl⟩
  rw [← hZ] at hz hz1
  rw [← hR] at hs ⊢
  clear hZ hR he
  unfold Instr.buildSlice
  simp only [Sem.run_bind, run_underlying Tryz.underlying40, Result.andThen_ok, hi]
  obtain ⟨W, hW⟩ : ∃ W : Array Value, W = (Array.range (1 * 37)).map (Z[· % Z.size]!) := ⟨_, rfl⟩
  have hWs : W.size = 37 := by rw [hW]; simp
  have hf : Instr.fill (fun i => some (i * 37, 37)) W [(0, Value.agg R)] = some R.toList.toArray := by
    rw [fill_step _ _ 0 (.agg R) _ (off := 0) (size := 37) rfl hs (by rw [hWs]; decide)]
    have e : lay 0 R W = R.toList.toArray := by
      unfold lay
      congr 1
      simp only [List.take_zero, List.nil_append, Nat.zero_add, hs]
      rw [List.drop_of_length_le (by simp [hWs]), List.append_nil]
    show Instr.fill _ (lay 0 R W) [] = _
    rw [e]
    rfl
  rw [hW] at hf
  simp [hz, Value.cells, hf, newRow]
end Go.Proofs.YteieielodooglaaGreat
