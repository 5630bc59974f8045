/- FwP, FwR -/
import Derived.Test.YthcleccofccbdaaGreatTxFwM
import Derived.Test.YthcleccofccbdaaGreatTxFwL
import Derived.Test.YthcleccofccbdaaGreatTxFwN
import Derived.Test.YthcleccofccbdaaGreatTxWsB
section
open Go Go.RowKit
namespace Go.Proofs.YthcleccofccbdaaGreat
theorem dl_hashes (d : DeleR) : nth (RowC.enc d) (1 + 0) = some (.slice d.k.A d.k.n d.k.c) := rfl
section
variable {P : Program} {a : Act} {w : World} {dst : Option Tmp} {ty : TypeId} {pos : String} {after : Array Edge} {gd : Option (Nat × Bool)}
theorem ev_loadFG {α : Type} [RowC α] {t : TypeId} {x : Operand} {A : Option Addr} {k i j s : Nat} (ht : CellT P t) (hx : a.eval x = ptrOf A (k * s + i + j)) {l : List α} (hr : HR w A (cellsOf l)) (hs : RowC.size α = s) (hk : k < l.length) {v : Value} (hv : nth (RowC.enc (gt l k)) (i + j) = some v) :
    (execOp a.eval ⟨dst, .load t x, ty, pos, after, gd⟩).run P w = .ok (.value v) w := ev_loadF (j := i + j) ht (by rw [hx, Nat.add_assoc]) hr hs hk hv
end
/-- a yes or no is told -/
def YesNoF (w w' : World) (e : Ending) : Prop := (∃ b : Bool, e = .returned (.bool b)) ∧ Step nowhere w w'
set_option maxRecDepth 100000 in
set_option maxHeartbeats 3200000 in
theorem heavy_calls (nm : List UInt8) (v e0 : Int) {A C : Option Addr} {n c m d : Nat} {P : List TargetR} {D : List DeleR} {w : World} [hr : HR w A (cellsOf P)] [hq : HR w C (cellsOf D)] (hl : P.length = n) (hm : D.length = m) (hmax : n ≤ 9223372036854775807) (hmaxm : m ≤ 9223372036854775807) :
    Calls Tryz.prog 6 #[.agg #[.string (strL nm), .int .i64 v, .int .i64 e0, .slice A n c, .slice C m d]] w fun e w' => YesNoF w w' e := by
  go_enter Tryz.func6, Tryz.ntmps6
  go_wp2_with (first | ((with_reducible apply (wpl_box_agg (dst := some 1))); (exact rfl); intro zt wzt _ _ _) | ((with_reducible apply wpl_loadcellN); (exact rfl); infer_instance; (exact rfl)))
  go_loopw [3, 4] (fun nv iv wr => ∃ (k : Nat) (z : Int), k ≤ n ∧ nv = .int .i64 z ∧ iv = .int .i64 (k : Int) ∧ Step nowhere w wr ∧ HB wr zt 25 #[.string (strL nm), .int .i64 v, .int .i64 e0, .slice A n c, .slice C m d]) (fun _ iv _ => n - (intOf iv).toNat)
  case atStart => exact ⟨0, _, Nat.zero_le _, rfl, rfl, stepN, inferInstance⟩
  case round =>
    obtain ⟨k, z, hk, rfl, rfl, st, ht⟩ := hrel
    by_cases hlt : k < n
    · have hltI : (k : Int) < n := by omega
      have hkl : k < P.length := by omega
      go_wp2_with (first | ((with_reducible apply wpl_loadcellN); (exact rfl); infer_instance; (exact rfl)))
      refine wp_region_N (nowhere) (by kernel_rfl) (fun wd _ _ => ?_)
      refine' takeH (i := 0) (v := _) rfl (by kernel_rfl) (by kernel_rfl) (by kernel_rfl) (fun _ _ _ h => h) (yields_of (by rfl) (fun w' _ => ?_)) inferInstance ?_
      rotate_left
      · (go_simp; try with_reducible rfl)
      try simp only [Act.put, sA]; try simp only [sB, sC]
      refine' takeH (i := 1) (v := _) rfl (by kernel_rfl) (by kernel_rfl) (by kernel_rfl) (fun _ _ _ h => h) (yields_of (by rfl) (fun w' _ => ?_)) inferInstance ?_
      rotate_left
      · (go_simp; try with_reducible rfl)
      try simp only [Act.put, sA]; try simp only [sB, sC]
      refine' takeH (i := 2) (v := _) rfl (by kernel_rfl) (by kernel_rfl) (by kernel_rfl) (fun _ _ _ h => h) (yields_of (by rfl) (fun w' _ => ?_)) inferInstance ?_
      rotate_left
      · (go_simp; try with_reducible rfl)
      try simp only [Act.put, sA]; try simp only [sB, sC]
      refine' takeH (i := 3) (v := _) rfl (by kernel_rfl) (by kernel_rfl) (by kernel_rfl) (fun _ _ _ h => h) (yields_of (by rfl) (fun w' _ => ?_)) inferInstance ?_
      rotate_left
      · ((with_reducible apply ev_loadcellN); (exact rfl); infer_instance; infer_instance; (exact rfl))
      try simp only [Act.put, sA]; try simp only [sB, sC]
      refine' takeH (i := 4) (v := _) rfl (by kernel_rfl) (by kernel_rfl) (by kernel_rfl) (fun _ _ _ h => h) (yields_of (by rfl) (fun w' _ => ?_)) inferInstance ?_
      rotate_left
      · (go_simp; try with_reducible rfl)
      try simp only [Act.put, sA]; try simp only [sB, sC]
      refine' takeH (i := 5) (v := _) rfl (by kernel_rfl) (by kernel_rfl) (by kernel_rfl) (fun _ _ _ h => h) (yields_of (by rfl) (fun w' _ => ?_)) inferInstance ?_
      rotate_left
      · ((with_reducible apply (ev_indexE (α := TargetR) (t := 22))); (exact rfl); (exact rfl); infer_instance; infer_instance; (first | (with_reducible assumption) | omega | (focus (simp; done)) | (focus (simp; omega; done)) | decide); (exact rfl); (decide); (first | (with_reducible assumption) | omega | (focus (simp; done)) | (focus (simp; omega; done)) | decide))
      try simp only [Act.put, sA]; try simp only [sB, sC]
      refine' takeH (i := 6) (v := _) rfl (by kernel_rfl) (by kernel_rfl) (by kernel_rfl) (fun _ _ _ h => h) (yields_of (by rfl) (fun w' _ => ?_)) inferInstance ?_
      rotate_left
      · ((with_reducible apply (ev_fieldE (t := 83))); (exact Tryz.underlying83); (exact rfl); (kernel_rfl); (exact rfl); infer_instance; (exact cells_pos (by decide) (by omega)))
      try simp only [Act.put, sA]; try simp only [sB, sC]
      refine' takeH (i := 7) (v := _) rfl (by kernel_rfl) (by kernel_rfl) (by kernel_rfl) (fun _ _ _ h => h) (yields_of (by rfl) (fun w' _ => ?_)) inferInstance ?_
      rotate_left
      · ((with_reducible apply (ev_loadF (α := TargetR) (s := 37))); infer_instance; (exact rfl); infer_instance; (exact rfl); (first | (with_reducible assumption) | omega); (exact tgc_0 _))
      try simp only [Act.put, sA]; try simp only [sB, sC]
      refine' takeH (i := 8) (v := _) rfl (by kernel_rfl) (by kernel_rfl) (by kernel_rfl) (fun _ _ _ h => h) (yields_of (by rfl) (fun w' _ => ?_)) inferInstance ?_
      rotate_left
      · (go_simp; try with_reducible rfl)
      try simp only [Act.put, sA]; try simp only [sB, sC]
      refine' takeH (i := 9) (v := _) rfl (by kernel_rfl) (by kernel_rfl) (by kernel_rfl) (fun _ _ _ h => h) (yields_of (by rfl) (fun w' _ => ?_)) inferInstance ?_
      rotate_left
      · (go_simp; try with_reducible rfl)
      try simp only [Act.put, sA]; try simp only [sB, sC]
      refine' takeH (i := 10) (v := _) rfl (by kernel_rfl) (by kernel_rfl) (by kernel_rfl) (fun _ _ _ h => h) (yields_of (by rfl) (fun w' _ => ?_)) inferInstance ?_
      rotate_left
      · (go_simp; try with_reducible rfl)
      try simp only [Act.put, sA]; try simp only [sB, sC]
      refine' takeH (i := 11) (v := _) rfl (by kernel_rfl) (by kernel_rfl) (by kernel_rfl) (fun _ _ _ h => h) (yields_of (by rfl) (fun w' _ => ?_)) inferInstance ?_
      rotate_left
      · ((with_reducible apply ev_loadcellN); (exact rfl); infer_instance; infer_instance; (exact rfl))
      try simp only [Act.put, sA]; try simp only [sB, sC]
      refine' takeH (i := 12) (v := _) rfl (by kernel_rfl) (by kernel_rfl) (by kernel_rfl) (fun _ _ _ h => h) (yields_of (by rfl) (fun w' _ => ?_)) inferInstance ?_
      rotate_left
      · (go_simp; try with_reducible rfl)
      try simp only [Act.put, sA]; try simp only [sB, sC]
      refine' takeH (i := 13) (v := _) rfl (by kernel_rfl) (by kernel_rfl) (by kernel_rfl) (fun _ _ _ h => h) (yields_of (by rfl) (fun w' _ => ?_)) inferInstance ?_
      rotate_left
      · ((with_reducible apply (ev_indexE (α := TargetR) (t := 22))); (exact rfl); (exact rfl); infer_instance; infer_instance; (first | (with_reducible assumption) | omega | (focus (simp; done)) | (focus (simp; omega; done)) | decide); (exact rfl); (decide); (first | (with_reducible assumption) | omega | (focus (simp; done)) | (focus (simp; omega; done)) | decide))
      try simp only [Act.put, sA]; try simp only [sB, sC]
      refine' takeH (i := 14) (v := _) rfl (by kernel_rfl) (by kernel_rfl) (by kernel_rfl) (fun _ _ _ h => h) (yields_of (by rfl) (fun w' _ => ?_)) inferInstance ?_
      rotate_left
      · ((with_reducible apply (ev_fieldE (t := 83))); (exact Tryz.underlying83); (exact rfl); (kernel_rfl); (exact rfl); infer_instance; (exact cells_pos (by decide) (by omega)))
      try simp only [Act.put, sA]; try simp only [sB, sC]
      refine' takeH (i := 15) (v := _) rfl (by kernel_rfl) (by kernel_rfl) (by kernel_rfl) (fun _ _ _ h => h) (yields_of (by rfl) (fun w' _ => ?_)) inferInstance ?_
      rotate_left
      · ((with_reducible apply (ev_loadF (α := TargetR) (s := 37))); infer_instance; (exact rfl); infer_instance; (exact rfl); (first | (with_reducible assumption) | omega); (exact tgc_34 _))
      try simp only [Act.put, sA]; try simp only [sB, sC]
      refine' takeH (i := 16) (v := _) rfl (by kernel_rfl) (by kernel_rfl) (by kernel_rfl) (fun _ _ _ h => h) (yields_of (by rfl) (fun w' _ => ?_)) inferInstance ?_
      rotate_left
      · (go_simp; try with_reducible rfl)
      try simp only [Act.put, sA]; try simp only [sB, sC]
      refine' takeH (i := 17) (v := _) rfl (by kernel_rfl) (by kernel_rfl) (by kernel_rfl) (fun _ _ _ h => h) (yields_of (by rfl) (fun w' _ => ?_)) inferInstance ?_
      rotate_left
      · (go_simp; try with_reducible rfl)
      try simp only [Act.put, sA]; try simp only [sB, sC]
      refine' takeH (i := 18) (v := _) rfl (by kernel_rfl) (by kernel_rfl) (by kernel_rfl) (fun _ _ _ h => h) (yields_of (by rfl) (fun w' _ => ?_)) inferInstance ?_
      rotate_left
      · (go_simp; try with_reducible rfl)
      try simp only [Act.put, sA]; try simp only [sB, sC]
      refine' takeH (i := 19) (v := _) rfl (by kernel_rfl) (by kernel_rfl) (by kernel_rfl) (fun _ _ _ h => h) (yields_of (by rfl) (fun w' _ => ?_)) inferInstance ?_
      rotate_left
      · ((with_reducible apply ev_loadcellN); (exact rfl); infer_instance; infer_instance; (exact rfl))
      try simp only [Act.put, sA]; try simp only [sB, sC]
      refine' takeH (i := 20) (v := _) rfl (by kernel_rfl) (by kernel_rfl) (by kernel_rfl) (fun _ _ _ h => h) (yields_of (by rfl) (fun w' _ => ?_)) inferInstance ?_
      rotate_left
      · (go_simp; try with_reducible rfl)
      try simp only [Act.put, sA]; try simp only [sB, sC]
      refine' takeH (i := 21) (v := _) rfl (by kernel_rfl) (by kernel_rfl) (by kernel_rfl) (fun _ _ _ h => h) (yields_of (by rfl) (fun w' _ => ?_)) inferInstance ?_
      rotate_left
      · ((with_reducible apply (ev_indexE (α := TargetR) (t := 22))); (exact rfl); (exact rfl); infer_instance; infer_instance; (first | (with_reducible assumption) | omega | (focus (simp; done)) | (focus (simp; omega; done)) | decide); (exact rfl); (decide); (first | (with_reducible assumption) | omega | (focus (simp; done)) | (focus (simp; omega; done)) | decide))
      try simp only [Act.put, sA]; try simp only [sB, sC]
      refine' takeH (i := 22) (v := _) rfl (by kernel_rfl) (by kernel_rfl) (by kernel_rfl) (fun _ _ _ h => h) (yields_of (by rfl) (fun w' _ => ?_)) inferInstance ?_
      rotate_left
      · ((with_reducible apply (ev_fieldE (t := 83))); (exact Tryz.underlying83); (exact rfl); (kernel_rfl); (exact rfl); infer_instance; (exact cells_pos (by decide) (by omega)))
      try simp only [Act.put, sA]; try simp only [sB, sC]
      refine' takeH (i := 23) (v := _) rfl (by kernel_rfl) (by kernel_rfl) (by kernel_rfl) (fun _ _ _ h => h) (yields_of (by rfl) (fun w' _ => ?_)) inferInstance ?_
      rotate_left
      · ((with_reducible apply (ev_loadF (α := TargetR) (s := 37))); infer_instance; (exact rfl); infer_instance; (exact rfl); (first | (with_reducible assumption) | omega); (exact tgc_36 _))
      try simp only [Act.put, sA]; try simp only [sB, sC]
      refine' takeH (i := 24) (v := _) rfl (by kernel_rfl) (by kernel_rfl) (by kernel_rfl) (fun _ _ _ h => h) (yields_of (by rfl) (fun w' _ => ?_)) inferInstance ?_
      rotate_left
      · (go_simp; try with_reducible rfl)
      try simp only [Act.put, sA]; try simp only [sB, sC]
      refine' takeH (i := 25) (v := _) rfl (by kernel_rfl) (by kernel_rfl) (by kernel_rfl) (fun _ _ _ h => h) (yields_of (by rfl) (fun w' _ => ?_)) inferInstance ?_
      rotate_left
      · (go_simp; try with_reducible rfl)
      try simp only [Act.put, sA]; try simp only [sB, sC]
      refine' takeH (i := 26) (v := _) rfl (by kernel_rfl) (by kernel_rfl) (by kernel_rfl) (fun _ _ _ h => h) (yields_of (by rfl) (fun w' _ => ?_)) inferInstance ?_
      rotate_left
      · (go_simp; try with_reducible rfl)
      try simp only [Act.put, sA]; try simp only [sB, sC]
      refine wpAnyH_done (by kernel_rfl) ?_ _
      go_wp2_with fail
      exact ⟨⟨k + 1, _, by omega, rfl, by go_num, stepN, inferInstance⟩, by simp [intOf]; omega⟩
    · have hltI : ¬ (k : Int) < n := by omega
      clear hk hlt
      go_wp2_with (first | ((with_reducible apply wpl_loadcellN); (exact rfl); infer_instance; (exact rfl)))
      generalize wr = w1 at *
      go_loopw [3, 5] (fun nv iv wr => ∃ (k : Nat) (z : Int), k ≤ m ∧ nv = .int .i64 z ∧ iv = .int .i64 (k : Int) ∧ Step nowhere w wr ∧ HB wr zt 25 #[.string (strL nm), .int .i64 v, .int .i64 e0, .slice A n c, .slice C m d]) (fun _ iv _ => m - (intOf iv).toNat)
      case atStart => exact ⟨0, _, Nat.zero_le _, rfl, rfl, st, ht⟩
      case round =>
        clear st ht hltI
        obtain ⟨j, y, hj, rfl, rfl, st, ht⟩ := hrel
        by_cases hlt : j < m
        · have hltI : (j : Int) < m := by omega
          have hkl : j < D.length := by omega
          go_wp2_with (first | ((with_reducible apply wpl_loadcellN); (exact rfl); infer_instance; (exact rfl)))
          refine wp_region_N (nowhere) (by kernel_rfl) (fun wd _ _ => ?_)
          refine' takeH (i := 0) (v := _) rfl (by kernel_rfl) (by kernel_rfl) (by kernel_rfl) (fun _ _ _ h => h) (yields_of (by rfl) (fun w' _ => ?_)) inferInstance ?_
          rotate_left
          · (go_simp; try with_reducible rfl)
          try simp only [Act.put, sA]; try simp only [sB, sC]
          refine' takeH (i := 1) (v := _) rfl (by kernel_rfl) (by kernel_rfl) (by kernel_rfl) (fun _ _ _ h => h) (yields_of (by rfl) (fun w' _ => ?_)) inferInstance ?_
          rotate_left
          · (go_simp; try with_reducible rfl)
          try simp only [Act.put, sA]; try simp only [sB, sC]
          refine' takeH (i := 2) (v := _) rfl (by kernel_rfl) (by kernel_rfl) (by kernel_rfl) (fun _ _ _ h => h) (yields_of (by rfl) (fun w' _ => ?_)) inferInstance ?_
          rotate_left
          · (go_simp; try with_reducible rfl)
          try simp only [Act.put, sA]; try simp only [sB, sC]
          refine' takeH (i := 3) (v := _) rfl (by kernel_rfl) (by kernel_rfl) (by kernel_rfl) (fun _ _ _ h => h) (yields_of (by rfl) (fun w' _ => ?_)) inferInstance ?_
          rotate_left
          · ((with_reducible apply ev_loadcellN); (exact rfl); infer_instance; infer_instance; (exact rfl))
          try simp only [Act.put, sA]; try simp only [sB, sC]
          refine' takeH (i := 4) (v := _) rfl (by kernel_rfl) (by kernel_rfl) (by kernel_rfl) (fun _ _ _ h => h) (yields_of (by rfl) (fun w' _ => ?_)) inferInstance ?_
          rotate_left
          · (go_simp; try with_reducible rfl)
          try simp only [Act.put, sA]; try simp only [sB, sC]
          refine' takeH (i := 5) (v := _) rfl (by kernel_rfl) (by kernel_rfl) (by kernel_rfl) (fun _ _ _ h => h) (yields_of (by rfl) (fun w' _ => ?_)) inferInstance ?_
          rotate_left
          · ((with_reducible apply (ev_indexE (α := DeleR) (t := 23))); (exact rfl); (exact rfl); infer_instance; infer_instance; (first | (with_reducible assumption) | omega | (focus (simp; done)) | (focus (simp; omega; done)) | decide); (exact rfl); (decide); (first | (with_reducible assumption) | omega | (focus (simp; done)) | (focus (simp; omega; done)) | decide))
          try simp only [Act.put, sA]; try simp only [sB, sC]
          refine' takeH (i := 6) (v := _) rfl (by kernel_rfl) (by kernel_rfl) (by kernel_rfl) (fun _ _ _ h => h) (yields_of (by rfl) (fun w' _ => ?_)) inferInstance ?_
          rotate_left
          · ((with_reducible apply (ev_fieldE (t := 85))); (exact Tryz.underlying85); (exact rfl); (kernel_rfl); (exact rfl); infer_instance; (exact cells_pos (by decide) (by omega)))
          try simp only [Act.put, sA]; try simp only [sB, sC]
          refine' takeH (i := 7) (v := _) rfl (by kernel_rfl) (by kernel_rfl) (by kernel_rfl) (fun _ _ _ h => h) (yields_of (by rfl) (fun w' _ => ?_)) inferInstance ?_
          rotate_left
          · ((with_reducible apply (ev_loadF (α := DeleR))); infer_instance; (exact rfl); infer_instance; (exact rfl); (first | (with_reducible assumption) | omega | (focus (simp; done)) | (focus (simp; omega; done)) | decide); (exact rfl))
          try simp only [Act.put, sA]; try simp only [sB, sC]
          refine' takeH (i := 8) (v := _) rfl (by kernel_rfl) (by kernel_rfl) (by kernel_rfl) (fun _ _ _ h => h) (yields_of (by rfl) (fun w' _ => ?_)) inferInstance ?_
          rotate_left
          · (go_simp; try with_reducible rfl)
          try simp only [Act.put, sA]; try simp only [sB, sC]
          refine' takeH (i := 9) (v := _) rfl (by kernel_rfl) (by kernel_rfl) (by kernel_rfl) (fun _ _ _ h => h) (yields_of (by rfl) (fun w' _ => ?_)) inferInstance ?_
          rotate_left
          · (go_simp; try with_reducible rfl)
          try simp only [Act.put, sA]; try simp only [sB, sC]
          refine' takeH (i := 10) (v := _) rfl (by kernel_rfl) (by kernel_rfl) (by kernel_rfl) (fun _ _ _ h => h) (yields_of (by rfl) (fun w' _ => ?_)) inferInstance ?_
          rotate_left
          · (go_simp; try with_reducible rfl)
          try simp only [Act.put, sA]; try simp only [sB, sC]
          refine' takeH (i := 11) (v := _) rfl (by kernel_rfl) (by kernel_rfl) (by kernel_rfl) (fun _ _ _ h => h) (yields_of (by rfl) (fun w' _ => ?_)) inferInstance ?_
          rotate_left
          · ((with_reducible apply ev_loadcellN); (exact rfl); infer_instance; infer_instance; (exact rfl))
          try simp only [Act.put, sA]; try simp only [sB, sC]
          refine' takeH (i := 12) (v := _) rfl (by kernel_rfl) (by kernel_rfl) (by kernel_rfl) (fun _ _ _ h => h) (yields_of (by rfl) (fun w' _ => ?_)) inferInstance ?_
          rotate_left
          · (go_simp; try with_reducible rfl)
          try simp only [Act.put, sA]; try simp only [sB, sC]
          refine' takeH (i := 13) (v := _) rfl (by kernel_rfl) (by kernel_rfl) (by kernel_rfl) (fun _ _ _ h => h) (yields_of (by rfl) (fun w' _ => ?_)) inferInstance ?_
          rotate_left
          · ((with_reducible apply (ev_indexE (α := DeleR) (t := 23))); (exact rfl); (exact rfl); infer_instance; infer_instance; (first | (with_reducible assumption) | omega | (focus (simp; done)) | (focus (simp; omega; done)) | decide); (exact rfl); (decide); (first | (with_reducible assumption) | omega | (focus (simp; done)) | (focus (simp; omega; done)) | decide))
          try simp only [Act.put, sA]; try simp only [sB, sC]
          refine' takeH (i := 14) (v := _) rfl (by kernel_rfl) (by kernel_rfl) (by kernel_rfl) (fun _ _ _ h => h) (yields_of (by rfl) (fun w' _ => ?_)) inferInstance ?_
          rotate_left
          · ((with_reducible apply (ev_fieldE (t := 85))); (exact Tryz.underlying85); (exact rfl); (kernel_rfl); (exact rfl); infer_instance; (exact cells_pos (by decide) (by omega)))
          try simp only [Act.put, sA]; try simp only [sB, sC]
          refine' takeH (i := 15) (v := _) rfl (by kernel_rfl) (by kernel_rfl) (by kernel_rfl) (fun _ _ _ h => h) (yields_of (by rfl) (fun w' _ => ?_)) inferInstance ?_
          rotate_left
          · ((with_reducible apply (ev_loadF (α := DeleR))); infer_instance; (exact rfl); infer_instance; (exact rfl); (first | (with_reducible assumption) | omega | (focus (simp; done)) | (focus (simp; omega; done)) | decide); (exact rfl))
          try simp only [Act.put, sA]; try simp only [sB, sC]
          refine' takeH (i := 16) (v := _) rfl (by kernel_rfl) (by kernel_rfl) (by kernel_rfl) (fun _ _ _ h => h) (yields_of (by rfl) (fun w' _ => ?_)) inferInstance ?_
          rotate_left
          · (go_simp; try with_reducible rfl)
          try simp only [Act.put, sA]; try simp only [sB, sC]
          refine' takeH (i := 17) (v := _) rfl (by kernel_rfl) (by kernel_rfl) (by kernel_rfl) (fun _ _ _ h => h) (yields_of (by rfl) (fun w' _ => ?_)) inferInstance ?_
          rotate_left
          · (go_simp; try with_reducible rfl)
          try simp only [Act.put, sA]; try simp only [sB, sC]
          refine' takeH (i := 18) (v := _) rfl (by kernel_rfl) (by kernel_rfl) (by kernel_rfl) (fun _ _ _ h => h) (yields_of (by rfl) (fun w' _ => ?_)) inferInstance ?_
          rotate_left
          · (go_simp; try with_reducible rfl)
          try simp only [Act.put, sA]; try simp only [sB, sC]
          refine' takeH (i := 19) (v := _) rfl (by kernel_rfl) (by kernel_rfl) (by kernel_rfl) (fun _ _ _ h => h) (yields_of (by rfl) (fun w' _ => ?_)) inferInstance ?_
          rotate_left
          · ((with_reducible apply ev_loadcellN); (exact rfl); infer_instance; infer_instance; (exact rfl))
          try simp only [Act.put, sA]; try simp only [sB, sC]
          refine' takeH (i := 20) (v := _) rfl (by kernel_rfl) (by kernel_rfl) (by kernel_rfl) (fun _ _ _ h => h) (yields_of (by rfl) (fun w' _ => ?_)) inferInstance ?_
          rotate_left
          · (go_simp; try with_reducible rfl)
          try simp only [Act.put, sA]; try simp only [sB, sC]
          refine' takeH (i := 21) (v := _) rfl (by kernel_rfl) (by kernel_rfl) (by kernel_rfl) (fun _ _ _ h => h) (yields_of (by rfl) (fun w' _ => ?_)) inferInstance ?_
          rotate_left
          · ((with_reducible apply (ev_indexE (α := DeleR) (t := 23))); (exact rfl); (exact rfl); infer_instance; infer_instance; (first | (with_reducible assumption) | omega | (focus (simp; done)) | (focus (simp; omega; done)) | decide); (exact rfl); (decide); (first | (with_reducible assumption) | omega | (focus (simp; done)) | (focus (simp; omega; done)) | decide))
          try simp only [Act.put, sA]; try simp only [sB, sC]
          refine' takeH (i := 22) (v := _) rfl (by kernel_rfl) (by kernel_rfl) (by kernel_rfl) (fun _ _ _ h => h) (yields_of (by rfl) (fun w' _ => ?_)) inferInstance ?_
          rotate_left
          · ((with_reducible apply (ev_fieldE (t := 85))); (exact Tryz.underlying85); (exact rfl); (kernel_rfl); (exact rfl); infer_instance; (exact cells_pos (by decide) (by omega)))
          try simp only [Act.put, sA]; try simp only [sB, sC]
          refine' takeH (i := 23) (v := _) rfl (by kernel_rfl) (by kernel_rfl) (by kernel_rfl) (fun _ _ _ h => h) (yields_of (by rfl) (fun w' _ => ?_)) inferInstance ?_
          rotate_left
          · ((with_reducible apply (ev_fieldE (t := 42))); (exact Tryz.underlying42); (exact rfl); (kernel_rfl); (exact rfl); infer_instance; (exact cells_pos (by decide) (by omega)))
          try simp only [Act.put, sA]; try simp only [sB, sC]
          refine' takeH (i := 24) (v := _) rfl (by kernel_rfl) (by kernel_rfl) (by kernel_rfl) (fun _ _ _ h => h) (yields_of (by rfl) (fun w' _ => ?_)) inferInstance ?_
          rotate_left
          · ((with_reducible apply (ev_loadFG (α := DeleR) (s := 5))); infer_instance; (exact rfl); infer_instance; (exact rfl); (first | (with_reducible assumption) | omega); (exact dl_hashes _))
          try simp only [Act.put, sA]; try simp only [sB, sC]
          refine' takeH (i := 25) (v := _) rfl (by kernel_rfl) (by kernel_rfl) (by kernel_rfl) (fun _ _ _ h => h) (yields_of (by rfl) (fun w' _ => ?_)) inferInstance ?_
          rotate_left
          · (go_simp; try with_reducible rfl)
          try simp only [Act.put, sA]; try simp only [sB, sC]
          refine' takeH (i := 26) (v := _) rfl (by kernel_rfl) (by kernel_rfl) (by kernel_rfl) (fun _ _ _ h => h) (yields_of (by rfl) (fun w' _ => ?_)) inferInstance ?_
          rotate_left
          · (go_simp; try with_reducible rfl)
          try simp only [Act.put, sA]; try simp only [sB, sC]
          refine' takeH (i := 27) (v := _) rfl (by kernel_rfl) (by kernel_rfl) (by kernel_rfl) (fun _ _ _ h => h) (yields_of (by rfl) (fun w' _ => ?_)) inferInstance ?_
          rotate_left
          · (go_simp; try with_reducible rfl)
          try simp only [Act.put, sA]; try simp only [sB, sC]
          refine' takeH (i := 28) (v := _) rfl (by kernel_rfl) (by kernel_rfl) (by kernel_rfl) (fun _ _ _ h => h) (yields_of (by rfl) (fun w' _ => ?_)) inferInstance ?_
          rotate_left
          · (go_simp; try with_reducible rfl)
          try simp only [Act.put, sA]; try simp only [sB, sC]
          refine wpAnyH_done (by kernel_rfl) ?_ _
          go_wp2_with fail
          exact ⟨⟨j + 1, _, by omega, rfl, by go_num, stepN, inferInstance⟩, by simp [intOf]; omega⟩
        · have hltI : ¬ (j : Int) < m := by omega
          go_wp2_with (first | ((with_reducible apply wpl_loadcellN); (exact rfl); infer_instance; (exact rfl)))
          go_ret
          exact ⟨⟨_, rfl⟩, stepN⟩
end Go.Proofs.YthcleccofccbdaaGreat
end
section
open Go Go.RowKit
namespace Go.Proofs.YthcleccofccbdaaGreat
theorem EncPost.uniF {ok : Bool} {bytes : List UInt8} {w w' : World} {e : Ending} (h : EncPost ok bytes w e w') :
    Step nowhere w w' ∧ ∃ A n c, e = .returned (.tuple #[.slice A n c, .int .i64 (if ok then 0 else 1)]) ∧ (if ok then bytes else []).length = n ∧ HR w' A (bs (if ok then bytes else [])) := by
  obtain ⟨hs, h⟩ := h
  refine ⟨hs, ?_⟩
  cases ok with
  | false =>
    obtain rfl : e = _ := h
    exact ⟨none, 0, 0, rfl, rfl, HR.nilB w'⟩
  | true =>
    obtain ⟨A, n, c, rfl, hn, hO, _⟩ := h
    exact ⟨A, n, c, rfl, hn.symm, ⟨hO.out.rd⟩⟩
instance factNilF : Fact' (([] : List UInt8).length ≤ maxLen) := ⟨Nat.zero_le _⟩
theorem run_emptyBF (w : World) : (Instr.buildSlice 26 0 #[]).run Tryz.prog w = .ok (.slice (some ⟨w.heap.size, 0, none⟩) 0 0) (w.alloc (.cells (u8s []) 5)) := by kernel_rfl
set_option maxRecDepth 100000 in
set_option maxHeartbeats 6400000 in
theorem wireTargets_calls (nm : List UInt8) (v e0 : Int) {Ap Cp : Option Addr} {np cp mp qp : Nat} {P : List TargetR} {D : List DeleR} {A : Option Addr} {q d : Nat} {b : List UInt8} {w : World} [hrp : HR w Ap (cellsOf P)] [hrd : HR w Cp (cellsOf D)] (hpl : P.length = np) (hdl : D.length = mp) (hnp : np ≤ 1466015503700) (hmp : mp ≤ 1954687338769) (hnm : nm.length ≤ 9223372036854775807) (hP : ∀ t ∈ P, t.l.length ≤ 9223372036854775807 ∧ t.hw.length ≤ 9223372036854775807 ∧ t.ecu.length ≤ 9223372036854775807) (hD : ∀ k ∈ D, DInW w k ∧ k.l.length ≤ 9223372036854775807 ∧ k.pre.length ≤ 9223372036854775807) [hr : HR w A (bs b)] (hl : b.length = q) (hcap : q ≤ d) (hq9 : q ≤ 9223372036854775807) :
    Calls Tryz.prog 3 #[.agg #[.string (strL nm), .int .i64 v, .int .i64 e0, .slice Ap np cp, .slice Cp mp qp], .slice A q d] w fun e w' => e = .returned (.bool true) ∧ Chg nowhere w w' := by
  have HLE := Lib.hid hl
  have HRR := Lib.hid hr.out
  have HRP := Lib.hid hrp.out
  have HRD := Lib.hid hrd.out
  have HPL := Lib.hid hpl
  have HDL := Lib.hid hdl
  have HPM := Lib.hid hP
  have HDM := Lib.hid hD
  have HNM := Lib.hid hnm
  have hnp9 : np ≤ 9223372036854775807 := by omega
  have hmp9 : mp ≤ 9223372036854775807 := by omega
  clear hl hpl hdl hP hD hnm
  go_enter Tryz.func3, Tryz.ntmps3
  go_wp2_with (first | ((with_reducible apply (wpl_box_agg (dst := some 2))); (exact rfl); intro zs wzs _ _ _) | ((with_reducible apply wpl_loadrow); (exact rfl); infer_instance; infer_instance; (first | (with_reducible assumption) | (with_reducible exact H32.size _) | (with_reducible exact enc_sz _ rfl) | kernel_rfl)))
  refine (heavy_calls nm v e0 (P := P) (D := D) HPL.out HDL.out hnp9 hmp9).mono ?_
  rintro e w1 ⟨⟨B, rfl⟩, _⟩
  cases B
  case true =>
    go_wp2_with fail
    go_ret
    exact ⟨rfl, (stepN (w0 := w)).chg⟩
  by_cases c1 : 3000 < q
  · have c1I : 3000 < (q : Int) := by omega
    go_wp2_with (first | ((with_reducible apply (wpl_guard (op := .call _))); (exact rfl)))
    go_ret
    exact ⟨rfl, (stepN (w0 := w)).chg⟩
  have c1I : ¬ 3000 < (q : Int) := by omega
  obtain ⟨Y, hY⟩ : ∃ Y, Y = if tgsOk nm v e0 P D then tgsEM nm v e0 P (D.map DeleR.m) else [] := ⟨_, rfl⟩
  obtain ⟨E, hE⟩ : ∃ E : Int, E = if tgsOk nm v e0 P D then 0 else 1 := ⟨_, rfl⟩
  have HY := Lib.hid hY
  have HE := Lib.hid hE
  have hbq : b.length = q := HLE.out
  have hdw : ∀ k ∈ D, DInW w1 k := fun k hk => DInW.nw (w0 := w) (HDM.out k hk).1
  have HDW := Lib.hid hdw
  clear hY hE hdw
  go_wp2_with (first | ((with_reducible apply wpl_loadrow); (exact rfl); infer_instance; infer_instance; (first | (with_reducible assumption) | (with_reducible exact H32.size _) | (with_reducible exact enc_sz _ rfl) | kernel_rfl)))
  refine (EncodeTargets_calls nm v e0 (P := P) (D := D) HPL.out HDL.out HDW.out hnp9 hmp9).mono ?_
  rw [tgsB_m nm v e0 HPL.out HDL.out]
  rintro e w2 hp
  obtain ⟨_, A1, n1, c1', rfl, hn1, hR1⟩ := hp.uniF
  clear hp
  rw [← HY.out] at hn1 hR1
  rw [← HE.out]
  have HN1 := Lib.hid hn1
  have hs2 : HB w2 zs 25 #[.string (strL nm), .int .i64 v, .int .i64 e0, .slice Ap np cp, .slice Cp mp qp] := inferInstance
  have nw2 : Nw w w2 := inferInstance
  clear hn1
  go_wp2_with (first | ((with_reducible apply wpl_loadrow); (exact rfl); infer_instance; infer_instance; (first | (with_reducible assumption) | (with_reducible exact H32.size _) | (with_reducible exact enc_sz _ rfl) | kernel_rfl)))
  refine (rEncodeTargets_calls nm v e0 (P := P) (D := D) HPL.out HDL.out hnp hmp HNM.out HPM.out (fun k hk => ⟨DInW.nw (w0 := w) (HDM.out k hk).1, (HDM.out k hk).2⟩)).mono ?_
  rintro e w3 hp
  obtain ⟨_, A2, n2, c2', rfl, hn2, hR2⟩ := hp.uniF
  clear hp
  rw [← HY.out] at hn2 hR2
  rw [← HE.out]
  have HN2 := Lib.hid hn2
  clear hn2
  have nw3 : Nw w w3 := inferInstance
  have hb3 : HR w3 A (bs b) := nw3.hrR HRR.out
  have y13 : HR w3 A1 (bs Y) := inferInstance
  go_wp2_with (first | ((with_reducible apply (stop_dst (dst := some 31))); (try simp only [Act.put, sA, sB, sC]); ((with_reducible apply (wpl_bslice (dst := some 31))); (exact run_emptyBF _); intro zb wb _ _ _)) | ((with_reducible apply wpl_appendB); (exact rfl); (exact rfl); infer_instance; infer_instance; infer_instance; (exact hbq); omega; intro A3 c3 wa _ hO3 _ _))
  have hR3 : HR wa A3 (bs b) := ⟨by
    have := hO3.out.rd
    rwa [List.nil_append] at this⟩
  clear hO3
  refine (DecodeTargets_calls (b := b) (by have := HLE.out; omega) (by omega)).mono ?_
  rintro e w4 ⟨_, m1, v1, x1, B1, k1, d1, C1, j1, q1, P1, D1, err1, rfl, hP1, hRd1, hN1, hM1⟩
  go_wp2_with (first | ((with_reducible apply (wpl_alloc (dst := some 9))); intro z1 wz1 _ _ _) | ((with_reducible apply wpl_storerow); (exact rfl); (exact rfl); infer_instance; infer_instance; (first | (with_reducible assumption) | (with_reducible exact H32.size _) | (with_reducible exact enc_sz _ rfl) | kernel_rfl); (first | (with_reducible assumption) | (with_reducible exact H32.size _) | (with_reducible exact enc_sz _ rfl) | kernel_rfl); (first | (with_reducible exact u8s_one _) | (with_reducible assumption) | (with_reducible exact enc_one _) | kernel_rfl); intro ws _ _))
  have nw5 : Nw w ws := inferInstance
  have y15 : HR ws A1 (bs Y) := inferInstance
  have y25 : HR ws A2 (bs Y) := inferInstance
  have hb5 : HR ws A (bs b) := nw5.hrR HRR.out
  have n45 : Nw w4 ws := inferInstance
  have hz15 : HB ws z1 25 #[.string (strL m1), .int .i64 v1, .int .i64 x1, .slice B1 k1 d1, .slice C1 j1 q1] := inferInstance
  refine (rDecodeTargets_calls (b := b) HLE.out hcap (by omega)).mono ?_
  rintro e w6 ⟨_, m2, v2, x2, B2, k2, d2, C2, j2, q2, P2, D2, err2, rfl, hP2, hRd2, hN2, hM2⟩
  have hq0 := hP1.out.1.trans hP2.out.1.symm
  obtain ⟨hmm, hq1⟩ := Prod.mk.inj hq0
  obtain ⟨hv, hq2⟩ := Prod.mk.inj hq1
  obtain ⟨hx, hq3⟩ := Prod.mk.inj hq2
  obtain ⟨hpp, hq4⟩ := Prod.mk.inj hq3
  obtain ⟨hdd, he⟩ := Prod.mk.inj hq4
  have hk12 : k1 = k2 := by rw [← hP1.out.2.1.1, ← hP2.out.2.1.1, hpp]
  have hj12 : j1 = j2 := by
    have h9 := congrArg List.length hdd
    rw [List.length_map, List.length_map, hP1.out.2.2.1, hP2.out.2.2.1] at h9
    exact h9
  have HDD := Lib.hid hdd
  subst hmm hv hx he hpp hk12 hj12
  clear hq0 hq1 hq2 hq3 hq4 hdd
  have hz16 : HB w6 z1 25 #[.string (strL m1), .int .i64 v1, .int .i64 x1, .slice B1 k1 d1, .slice C1 j1 q1] := inferInstance
  have y16 : HR w6 A1 (bs Y) := inferInstance
  have y26 : HR w6 A2 (bs Y) := inferInstance
  have n46 : Nw w4 w6 := inferInstance
  have q1' : ((strL Y).toList == (strL Y).toList) = true := by simp
  have q2' : (E == E) = true := by simp
  have q3' : (err1 == err1) = true := by simp
  go_wp2_with (first | ((with_reducible apply (wpl_guard (op := .load _ _))); (exact rfl)) | ((with_reducible apply wpl_conv); (exact rfl); infer_instance; (first | (exact HN1.out) | (exact HN2.out)); (exact Tryz.underlying26); (exact Tryz.underlying5); (exact Tryz.underlying9)) | ((with_reducible apply (wpl_alloc (dst := some 11))); intro z2 wz2 _ _ _) | ((with_reducible apply wpl_loadrow); (exact rfl); infer_instance; infer_instance; (first | (with_reducible assumption) | (with_reducible exact H32.size _) | (with_reducible exact enc_sz _ rfl) | kernel_rfl)) | ((with_reducible apply wpl_storerow); (exact rfl); (exact rfl); infer_instance; infer_instance; (first | (with_reducible assumption) | (with_reducible exact H32.size _) | (with_reducible exact enc_sz _ rfl) | kernel_rfl); (first | (with_reducible assumption) | (with_reducible exact H32.size _) | (with_reducible exact enc_sz _ rfl) | kernel_rfl); (first | (with_reducible exact u8s_one _) | (with_reducible assumption) | (with_reducible exact enc_one _) | kernel_rfl); intro ws _ _))
  have nw7 : Nw w6 ws := inferInstance
  have n47 : Nw w4 ws := inferInstance
  have hrA : HR ws B1 (cellsOf P1) := ⟨hRd1.out.1.chg n47.out (fun _ _ _ h => h)⟩
  have hrB : HR ws B2 (cellsOf P1) := ⟨hRd2.out.1.chg nw7.out (fun _ _ _ h => h)⟩
  have hrC : HR ws C1 (cellsOf D1) := ⟨hRd1.out.2.1.chg n47.out (fun _ _ _ h => h)⟩
  have hrD : HR ws C2 (cellsOf D2) := ⟨hRd2.out.2.1.chg nw7.out (fun _ _ _ h => h)⟩
  refine (sameTargets_calls m1 v1 x1 (P := P1) (D := D1) (F := D2) hP1.out.2.1.1 (by have := hP1.out.2.1.2.2; omega) hP1.out.2.2.1 hP2.out.2.2.1 (by have := hP1.out.2.2.2.2; omega) (fun k hk => KIn.chg (hRd1.out.2.2 k hk).1 n47.out (fun _ _ h => h)) (fun k hk => KIn.chg (hRd2.out.2.2 k hk).1 nw7.out (fun _ _ h => h)) HDD.out).mono ?_
  rintro e w7 ⟨rfl, _⟩
  go_wp2_with fail
  refine (wknown_calls _).mono ?_
  rintro e w10 ⟨rfl, _⟩
  go_wp2_with fail
  go_ret
  exact ⟨rfl, (stepN (w0 := w)).chg⟩
end Go.Proofs.YthcleccofccbdaaGreat
end
