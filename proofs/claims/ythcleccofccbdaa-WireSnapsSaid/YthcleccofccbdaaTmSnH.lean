/- SnH -/
import Derived.Test.YthcleccofccbdaaTmSnA
import Derived.Stop.BytesEq
import Derived.Laws.StructEq
open Go Go.RowKit
namespace Go.Proofs.Ythcleccofccbdaa
theorem partS_cell {P : Program} {t : TypeId} [h : CellT P t] {xs : Array Value} {off : Nat} {v : Value} (hx : nth xs.toList off = some v) (w : World) : (part t xs off).run P w = .ok v w := by
  rw [← nth_get] at hx
  have hx' : xs[off]? = some v := by simpa using hx
  simp [part, h.agg w, hx']
theorem eqFS_cons {P : Program} {d : Nat} {xs ys : Array Value} {f : Field} {fs : List Field} {w : World} (hn : f.name ≠ "_") {a b : Value} (ha : (part f.type xs f.offset).run P w = .ok a w) (hb : (part f.type ys f.offset).run P w = .ok b w) {r : Bool} (hr : (Op.equalIn d f.type a b).run P w = .ok r w) {s : Bool} (hs : (Op.eqFields d xs ys fs).run P w = .ok s w) :
    (Op.eqFields d xs ys (f :: fs)).run P w = .ok (r && s) w := by
  rw [Op.eqFields, if_pos hn]
  simp only [Sem.run_bind, ha, hb, hr, Result.andThen_ok]
  cases r
  · simp
  · simp [hs]
set_option maxRecDepth 100000 in
set_option maxHeartbeats 1600000 in
theorem neqPin (a : PinR) (w : World) : (binOp .neq 46 (.agg (RowC.enc a).toArray) (.agg (RowC.enc a).toArray)).run Try.prog w = .ok (.bool false) w := by
  rw [run_neq_struct]
  have key : (Op.equalIn (9999 + 1) 46 (.agg (RowC.enc a).toArray) (.agg (RowC.enc a).toArray)).run Try.prog w = .ok (((strL a.l).toList == (strL a.l).toList) && (a.v == a.v)) w := by
    rw [run_equalIn_struct w 9999 46 _ _ (by kernel_rfl) (by kernel_rfl)]
    rw [Program.fieldsOf, Try.underlying46]
    refine eqFS_cons (by decide) (partS_cell (t := 9) rfl w) (partS_cell (t := 9) rfl w) (run_equalIn_string w 9998 9 _ _ Try.underlying9) ?_
    rw [← Bool.and_true (a.v == a.v)]
    refine eqFS_cons (by decide) (partS_cell (t := 3) rfl w) (partS_cell (t := 3) rfl w) (run_equalIn_int w 9998 3 _ _ _ _ Try.underlying3) ?_
    rfl
  have h1 : (((strL a.l).toList == (strL a.l).toList) && (a.v == a.v)) = true := by simp
  rw [h1] at key
  show ((Op.equalIn 10000 46 (.agg (RowC.enc a).toArray) (.agg (RowC.enc a).toArray)).run Try.prog w).andThen _ = _
  rw [show (Op.equalIn 10000 46 (.agg (RowC.enc a).toArray) (.agg (RowC.enc a).toArray)).run Try.prog w = .ok true w from key]
  rfl
set_option maxRecDepth 100000 in
set_option maxHeartbeats 3200000 in
theorem sameSnap_calls (v x : Int) {A B : Option Addr} {n c c2 : Nat} {P : List PinR} {w : World} [hr : HR w A (cellsOf P)] [hr2 : HR w B (cellsOf P)] (hl : P.length = n) (hm : n ≤ 1000000000) :
    Calls Try.prog 22 #[.agg #[.int .i64 v, .int .i64 x, .slice A n c], .agg #[.int .i64 v, .int .i64 x, .slice B n c2]] w fun e w' => e = .returned (.bool true) ∧ Step nowhere w w' := by
  have hnq := neqPin
  have q1 : (v != v) = false := by simp
  have q2 : (x != x) = false := by simp
  have q3 : ((n : Int) != (n : Int)) = false := by simp
  go_enter Try.func22, Try.ntmps22
  go_wp2_with (first | go_skip | ((with_reducible apply (wpl_guard (op := .load _ _))); (exact rfl)) | ((with_reducible apply (wpl_box_agg (dst := some 2))); (exact rfl); intro za wza _ _ _) | ((with_reducible apply (wpl_box_int (dst := some 2))); (exact rfl); intro za wza _ _ _) | ((with_reducible apply (wpl_box_slice (dst := some 2))); (exact rfl); intro za wza _ _ _) | ((with_reducible apply (wpl_box_str (dst := some 2))); (exact rfl); intro za wza _ _ _) | ((with_reducible apply (wpl_box_bool (dst := some 2))); (exact rfl); intro za wza _ _ _) | ((with_reducible apply (wpl_box_ptr (dst := some 2))); (exact rfl); intro za wza _ _ _) | ((with_reducible apply (wpl_box_agg (dst := some 3))); (exact rfl); intro zb wzb _ _ _) | ((with_reducible apply (wpl_box_int (dst := some 3))); (exact rfl); intro zb wzb _ _ _) | ((with_reducible apply (wpl_box_slice (dst := some 3))); (exact rfl); intro zb wzb _ _ _) | ((with_reducible apply (wpl_box_str (dst := some 3))); (exact rfl); intro zb wzb _ _ _) | ((with_reducible apply (wpl_box_bool (dst := some 3))); (exact rfl); intro zb wzb _ _ _) | ((with_reducible apply (wpl_box_ptr (dst := some 3))); (exact rfl); intro zb wzb _ _ _) | ((with_reducible apply wpl_box_agg); (exact rfl); intro z wz _ _ _) | ((with_reducible apply wpl_box_int); (exact rfl); intro z wz _ _ _) | ((with_reducible apply wpl_box_slice); (exact rfl); intro z wz _ _ _) | ((with_reducible apply wpl_box_str); (exact rfl); intro z wz _ _ _) | ((with_reducible apply wpl_box_bool); (exact rfl); intro z wz _ _ _) | ((with_reducible apply wpl_box_ptr); (exact rfl); intro z wz _ _ _) | ((with_reducible apply (wpl_guard (op := .load _ _))); (exact rfl)) | ((with_reducible apply (wpl_guard (op := .fieldAddr _ _ _))); (exact rfl)) | ((with_reducible apply wpl_loadrow); (exact rfl); infer_instance; infer_instance; (first | (with_reducible assumption) | (with_reducible exact H32.size _) | (with_reducible exact enc_sz _ rfl) | kernel_rfl)) | ((with_reducible apply wpl_loadcellN); (exact rfl); infer_instance; (exact rfl)))
  have hza : HB wzb za 44 #[.int .i64 v, .int .i64 x, .slice A n c] := inferInstance
  go_loopw [5] (fun iv wr => ∃ k : Nat, k ≤ n ∧ iv = .int .i64 (k : Int) ∧ Step nowhere w wr ∧ HB wr za 44 #[.int .i64 v, .int .i64 x, .slice A n c] ∧ HB wr zb 44 #[.int .i64 v, .int .i64 x, .slice B n c2]) (fun iv _ => n - (intOf iv).toNat)
  case atStart => exact ⟨0, Nat.zero_le _, rfl, stepN, hza, inferInstance⟩
  case round =>
    obtain ⟨k, hk, rfl, st, hx, hy⟩ := hrel
    have nr : Nw w wr := ⟨st.chg⟩
    have hra : HR wr A (cellsOf P) := inferInstance
    have hrb : HR wr B (cellsOf P) := inferInstance
    by_cases hlt : k < n
    · have hltI : (k : Int) < n := by omega
      have hkl : k < P.length := by omega
      go_wp2_with (first | go_skip | ((with_reducible apply wpl_box_agg); (exact rfl); intro z wz _ _ _) | ((with_reducible apply wpl_box_int); (exact rfl); intro z wz _ _ _) | ((with_reducible apply wpl_box_slice); (exact rfl); intro z wz _ _ _) | ((with_reducible apply wpl_box_str); (exact rfl); intro z wz _ _ _) | ((with_reducible apply wpl_box_bool); (exact rfl); intro z wz _ _ _) | ((with_reducible apply wpl_box_ptr); (exact rfl); intro z wz _ _ _) | ((with_reducible apply (wpl_guard (op := .load _ _))); (exact rfl)) | ((with_reducible apply (wpl_guard (op := .fieldAddr _ _ _))); (exact rfl)) | ((with_reducible apply wpl_loadrow); (exact rfl); infer_instance; infer_instance; (first | (with_reducible assumption) | (with_reducible exact H32.size _) | (with_reducible exact enc_sz _ rfl) | kernel_rfl)) | ((with_reducible apply wpl_loadcellN); (exact rfl); infer_instance; (exact rfl)))
      refine wp_region_N (nowhere) (by kernel_rfl) (fun wd _ _ => ?_)
      refine' takeH (i := 0) (v := _) rfl (by kernel_rfl) (by kernel_rfl) (by kernel_rfl) (fun _ _ _ h => h) (yields_of (by rfl) (fun w' _ => ?_)) inferInstance ?_
      rotate_left
      · (first | ((with_reducible apply (ev_fieldE (t := 46))); (exact Try.underlying46); (exact rfl); (kernel_rfl); (exact rfl); infer_instance; (exact cells_pos (by decide) (by omega))) | (go_simp; try with_reducible rfl))
      try simp only [Act.put, sA]; try simp only [sB, sC]
      refine' takeH (i := 1) (v := _) rfl (by kernel_rfl) (by kernel_rfl) (by kernel_rfl) (fun _ _ _ h => h) (yields_of (by rfl) (fun w' _ => ?_)) inferInstance ?_
      rotate_left
      · (first | ((with_reducible apply ev_loadrow); (exact rfl); infer_instance; infer_instance; (first | (with_reducible assumption) | (with_reducible exact H32.size _) | (with_reducible exact enc_sz _ rfl) | kernel_rfl)) | ((with_reducible apply (ev_loadhash (t := 78))); (exact rfl); infer_instance; infer_instance; (first | (with_reducible assumption) | omega)) | ((with_reducible apply ev_loadcellN); (exact rfl); infer_instance; infer_instance; (exact rfl)) | ((with_reducible apply (ev_loadE (α := PinR) (t := 46))); infer_instance; (exact rfl); infer_instance; (exact rfl); (decide); (first | (with_reducible assumption) | omega | (focus (simp; done)) | (focus (simp; omega; done)) | decide)) | ((with_reducible apply (ev_loadF (α := PinR))); infer_instance; (exact rfl); infer_instance; (exact rfl); (first | (with_reducible assumption) | omega | (focus (simp; done)) | (focus (simp; omega; done)) | decide); (exact rfl)) | ((with_reducible apply (ev_loadint (t := 3))); (exact rfl); infer_instance; infer_instance; (first | (with_reducible assumption) | omega)) | ((with_reducible apply (ev_loadbyte (t := 5))); (exact rfl); infer_instance; infer_instance; (first | (with_reducible assumption) | omega)) | (go_simp; try with_reducible rfl))
      try simp only [Act.put, sA]; try simp only [sB, sC]
      refine' takeH (i := 2) (v := _) rfl (by kernel_rfl) (by kernel_rfl) (by kernel_rfl) (fun _ _ _ h => h) (yields_of (by rfl) (fun w' _ => ?_)) inferInstance ?_
      rotate_left
      · (go_simp; try with_reducible rfl)
      try simp only [Act.put, sA]; try simp only [sB, sC]
      refine' takeH (i := 3) (v := _) rfl (by kernel_rfl) (by kernel_rfl) (by kernel_rfl) (fun _ _ _ h => h) (yields_of (by rfl) (fun w' _ => ?_)) inferInstance ?_
      rotate_left
      · (first | ((with_reducible apply ev_indexSN); (exact rfl); (exact rfl); infer_instance; (first | (with_reducible assumption) | omega)) | ((with_reducible apply ev_indexS); (exact rfl); (exact rfl); infer_instance; (first | (with_reducible assumption) | omega); (first | (with_reducible assumption) | omega)) | ((with_reducible apply ev_indexArr); (exact rfl); (exact rfl); (exact Try.underlying78); (kernel_rfl); (first | (with_reducible assumption) | omega); (first | (with_reducible assumption) | omega)) | ((with_reducible apply ev_indexH'); (exact rfl); (exact rfl); infer_instance; infer_instance; (first | (with_reducible assumption) | omega); (first | (with_reducible assumption) | omega); (first | (with_reducible assumption) | omega)) | ((with_reducible apply ev_indexH); (exact rfl); (exact rfl); infer_instance; infer_instance; (first | (with_reducible assumption) | omega); (first | (with_reducible assumption) | omega)) | ((with_reducible apply (ev_indexE (α := PinR) (t := 42))); (exact rfl); (exact rfl); infer_instance; infer_instance; (first | (with_reducible assumption) | omega | (focus (simp; done)) | (focus (simp; omega; done)) | decide); (exact rfl); (decide); (first | (with_reducible assumption) | omega | (focus (simp; done)) | (focus (simp; omega; done)) | decide)) | ((with_reducible apply (ev_indexE0 (α := PinR) (t := 42))); (exact rfl); infer_instance; infer_instance; (first | (with_reducible assumption) | omega | (focus (simp; done)) | (focus (simp; omega; done)) | decide); (exact rfl); (decide); (first | (with_reducible assumption) | omega | (focus (simp; done)) | (focus (simp; omega; done)) | decide)) | (go_simp; try with_reducible rfl))
      try simp only [Act.put, sA]; try simp only [sB, sC]
      refine' takeH (i := 4) (v := _) rfl (by kernel_rfl) (by kernel_rfl) (by kernel_rfl) (fun _ _ _ h => h) (yields_of (by rfl) (fun w' _ => ?_)) inferInstance ?_
      rotate_left
      · (first | ((with_reducible apply ev_loadrow); (exact rfl); infer_instance; infer_instance; (first | (with_reducible assumption) | (with_reducible exact H32.size _) | (with_reducible exact enc_sz _ rfl) | kernel_rfl)) | ((with_reducible apply (ev_loadhash (t := 78))); (exact rfl); infer_instance; infer_instance; (first | (with_reducible assumption) | omega)) | ((with_reducible apply ev_loadcellN); (exact rfl); infer_instance; infer_instance; (exact rfl)) | ((with_reducible apply (ev_loadE (α := PinR) (t := 46))); infer_instance; (exact rfl); infer_instance; (exact rfl); (decide); (first | (with_reducible assumption) | omega | (focus (simp; done)) | (focus (simp; omega; done)) | decide)) | ((with_reducible apply (ev_loadF (α := PinR))); infer_instance; (exact rfl); infer_instance; (exact rfl); (first | (with_reducible assumption) | omega | (focus (simp; done)) | (focus (simp; omega; done)) | decide); (exact rfl)) | ((with_reducible apply (ev_loadint (t := 3))); (exact rfl); infer_instance; infer_instance; (first | (with_reducible assumption) | omega)) | ((with_reducible apply (ev_loadbyte (t := 5))); (exact rfl); infer_instance; infer_instance; (first | (with_reducible assumption) | omega)) | (go_simp; try with_reducible rfl))
      try simp only [Act.put, sA]; try simp only [sB, sC]
      refine' takeH (i := 5) (v := _) rfl (by kernel_rfl) (by kernel_rfl) (by kernel_rfl) (fun _ _ _ h => h) (yields_of (by rfl) (fun w' _ => ?_)) inferInstance ?_
      rotate_left
      · (first | ((with_reducible apply (ev_fieldE (t := 46))); (exact Try.underlying46); (exact rfl); (kernel_rfl); (exact rfl); infer_instance; (exact cells_pos (by decide) (by omega))) | (go_simp; try with_reducible rfl))
      try simp only [Act.put, sA]; try simp only [sB, sC]
      refine' takeH (i := 6) (v := _) rfl (by kernel_rfl) (by kernel_rfl) (by kernel_rfl) (fun _ _ _ h => h) (yields_of (by rfl) (fun w' _ => ?_)) inferInstance ?_
      rotate_left
      · (first | ((with_reducible apply ev_loadrow); (exact rfl); infer_instance; infer_instance; (first | (with_reducible assumption) | (with_reducible exact H32.size _) | (with_reducible exact enc_sz _ rfl) | kernel_rfl)) | ((with_reducible apply (ev_loadhash (t := 78))); (exact rfl); infer_instance; infer_instance; (first | (with_reducible assumption) | omega)) | ((with_reducible apply ev_loadcellN); (exact rfl); infer_instance; infer_instance; (exact rfl)) | ((with_reducible apply (ev_loadE (α := PinR) (t := 46))); infer_instance; (exact rfl); infer_instance; (exact rfl); (decide); (first | (with_reducible assumption) | omega | (focus (simp; done)) | (focus (simp; omega; done)) | decide)) | ((with_reducible apply (ev_loadF (α := PinR))); infer_instance; (exact rfl); infer_instance; (exact rfl); (first | (with_reducible assumption) | omega | (focus (simp; done)) | (focus (simp; omega; done)) | decide); (exact rfl)) | ((with_reducible apply (ev_loadint (t := 3))); (exact rfl); infer_instance; infer_instance; (first | (with_reducible assumption) | omega)) | ((with_reducible apply (ev_loadbyte (t := 5))); (exact rfl); infer_instance; infer_instance; (first | (with_reducible assumption) | omega)) | (go_simp; try with_reducible rfl))
      try simp only [Act.put, sA]; try simp only [sB, sC]
      refine' takeH (i := 7) (v := _) rfl (by kernel_rfl) (by kernel_rfl) (by kernel_rfl) (fun _ _ _ h => h) (yields_of (by rfl) (fun w' _ => ?_)) inferInstance ?_
      rotate_left
      · (go_simp; try with_reducible rfl)
      try simp only [Act.put, sA]; try simp only [sB, sC]
      refine' takeH (i := 8) (v := _) rfl (by kernel_rfl) (by kernel_rfl) (by kernel_rfl) (fun _ _ _ h => h) (yields_of (by rfl) (fun w' _ => ?_)) inferInstance ?_
      rotate_left
      · (first | ((with_reducible apply ev_indexSN); (exact rfl); (exact rfl); infer_instance; (first | (with_reducible assumption) | omega)) | ((with_reducible apply ev_indexS); (exact rfl); (exact rfl); infer_instance; (first | (with_reducible assumption) | omega); (first | (with_reducible assumption) | omega)) | ((with_reducible apply ev_indexArr); (exact rfl); (exact rfl); (exact Try.underlying78); (kernel_rfl); (first | (with_reducible assumption) | omega); (first | (with_reducible assumption) | omega)) | ((with_reducible apply ev_indexH'); (exact rfl); (exact rfl); infer_instance; infer_instance; (first | (with_reducible assumption) | omega); (first | (with_reducible assumption) | omega); (first | (with_reducible assumption) | omega)) | ((with_reducible apply ev_indexH); (exact rfl); (exact rfl); infer_instance; infer_instance; (first | (with_reducible assumption) | omega); (first | (with_reducible assumption) | omega)) | ((with_reducible apply (ev_indexE (α := PinR) (t := 42))); (exact rfl); (exact rfl); infer_instance; infer_instance; (first | (with_reducible assumption) | omega | (focus (simp; done)) | (focus (simp; omega; done)) | decide); (exact rfl); (decide); (first | (with_reducible assumption) | omega | (focus (simp; done)) | (focus (simp; omega; done)) | decide)) | ((with_reducible apply (ev_indexE0 (α := PinR) (t := 42))); (exact rfl); infer_instance; infer_instance; (first | (with_reducible assumption) | omega | (focus (simp; done)) | (focus (simp; omega; done)) | decide); (exact rfl); (decide); (first | (with_reducible assumption) | omega | (focus (simp; done)) | (focus (simp; omega; done)) | decide)) | (go_simp; try with_reducible rfl))
      try simp only [Act.put, sA]; try simp only [sB, sC]
      refine' takeH (i := 9) (v := _) rfl (by kernel_rfl) (by kernel_rfl) (by kernel_rfl) (fun _ _ _ h => h) (yields_of (by rfl) (fun w' _ => ?_)) inferInstance ?_
      rotate_left
      · (first | ((with_reducible apply ev_loadrow); (exact rfl); infer_instance; infer_instance; (first | (with_reducible assumption) | (with_reducible exact H32.size _) | (with_reducible exact enc_sz _ rfl) | kernel_rfl)) | ((with_reducible apply (ev_loadhash (t := 78))); (exact rfl); infer_instance; infer_instance; (first | (with_reducible assumption) | omega)) | ((with_reducible apply ev_loadcellN); (exact rfl); infer_instance; infer_instance; (exact rfl)) | ((with_reducible apply (ev_loadE (α := PinR) (t := 46))); infer_instance; (exact rfl); infer_instance; (exact rfl); (decide); (first | (with_reducible assumption) | omega | (focus (simp; done)) | (focus (simp; omega; done)) | decide)) | ((with_reducible apply (ev_loadF (α := PinR))); infer_instance; (exact rfl); infer_instance; (exact rfl); (first | (with_reducible assumption) | omega | (focus (simp; done)) | (focus (simp; omega; done)) | decide); (exact rfl)) | ((with_reducible apply (ev_loadint (t := 3))); (exact rfl); infer_instance; infer_instance; (first | (with_reducible assumption) | omega)) | ((with_reducible apply (ev_loadbyte (t := 5))); (exact rfl); infer_instance; infer_instance; (first | (with_reducible assumption) | omega)) | (go_simp; try with_reducible rfl))
      try simp only [Act.put, sA]; try simp only [sB, sC]
      refine' takeH (i := 10) (v := _) rfl (by kernel_rfl) (by kernel_rfl) (by kernel_rfl) (fun _ _ _ h => h) (yields_of (by rfl) (fun w' _ => ?_)) inferInstance ?_
      rotate_left
      · (go_simp; try with_reducible rfl)
      try simp only [Act.put, sA]; try simp only [sB, sC]
      refine wpAnyH_done (by kernel_rfl) ?_ _
      go_wp2_with (first | go_skip | ((with_reducible apply wpl_box_agg); (exact rfl); intro z wz _ _ _) | ((with_reducible apply wpl_box_int); (exact rfl); intro z wz _ _ _) | ((with_reducible apply wpl_box_slice); (exact rfl); intro z wz _ _ _) | ((with_reducible apply wpl_box_str); (exact rfl); intro z wz _ _ _) | ((with_reducible apply wpl_box_bool); (exact rfl); intro z wz _ _ _) | ((with_reducible apply wpl_box_ptr); (exact rfl); intro z wz _ _ _) | ((with_reducible apply (wpl_guard (op := .load _ _))); (exact rfl)) | ((with_reducible apply (wpl_guard (op := .fieldAddr _ _ _))); (exact rfl)) | ((with_reducible apply wpl_loadrow); (exact rfl); infer_instance; infer_instance; (first | (with_reducible assumption) | (with_reducible exact H32.size _) | (with_reducible exact enc_sz _ rfl) | kernel_rfl)) | ((with_reducible apply wpl_loadcellN); (exact rfl); infer_instance; (exact rfl)))
      exact ⟨⟨k + 1, by omega, by go_num, stepN, inferInstance, inferInstance⟩, by simp [intOf]; omega⟩
    · have hltI : ¬ (k : Int) < n := by omega
      go_wp2_with (first | go_skip | ((with_reducible apply wpl_box_agg); (exact rfl); intro z wz _ _ _) | ((with_reducible apply wpl_box_int); (exact rfl); intro z wz _ _ _) | ((with_reducible apply wpl_box_slice); (exact rfl); intro z wz _ _ _) | ((with_reducible apply wpl_box_str); (exact rfl); intro z wz _ _ _) | ((with_reducible apply wpl_box_bool); (exact rfl); intro z wz _ _ _) | ((with_reducible apply wpl_box_ptr); (exact rfl); intro z wz _ _ _) | ((with_reducible apply (wpl_guard (op := .load _ _))); (exact rfl)) | ((with_reducible apply (wpl_guard (op := .fieldAddr _ _ _))); (exact rfl)) | ((with_reducible apply wpl_loadrow); (exact rfl); infer_instance; infer_instance; (first | (with_reducible assumption) | (with_reducible exact H32.size _) | (with_reducible exact enc_sz _ rfl) | kernel_rfl)) | ((with_reducible apply wpl_loadcellN); (exact rfl); infer_instance; (exact rfl)))
      go_ret
      exact ⟨rfl, stepN⟩
end Go.Proofs.Ythcleccofccbdaa
