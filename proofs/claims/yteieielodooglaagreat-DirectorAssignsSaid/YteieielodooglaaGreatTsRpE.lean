/- RpE -/
import Derived.Test.YteieielodooglaaGreatTsDrB
open Go Go.RowKit
namespace Go.Proofs.YteieielodooglaaGreat
theorem run_appendNil (A B : Option Addr) (n c d : Nat) (ty : TypeId) (hc : n ≤ c) (w : World) : (Builtin.append_ #[40, 40] ty #[.slice A n c, .slice B 0 d]).run Tryz.prog w = .ok (.slice A n c) w := by
  have hi : ∀ w, (sizeOf 42).run Tryz.prog w = .ok 37 w := fun _ => by kernel_rfl
  unfold Builtin.append_
  cases A <;> cases B <;> simp [run_underlying Tryz.underlying40, hi, Builtin.lenOf, Builtin.firstCells, hc, loadCells, loadCellsFrom, storeCells]
section
variable {ops : Array Oper} {rest : List Oper} {a : Act} {w : World} {Q : Exit → Act → World → Prop} {dst : Option Tmp} {ty : TypeId} {pos : String} {after : Array Edge}
theorem wpl_appendNil {s x : Operand} {A B : Option Addr} {n c d : Nat} (hs : a.eval s = .slice A n c) (hx : a.eval x = .slice B 0 d) (hc : n ≤ c) (h : wpList Tryz.prog ops Q rest (a.put dst (.slice A n c)) w) :
    wpList Tryz.prog ops Q (⟨dst, .call { callee := .builtin .append, args := #[s, x], argTypes := #[40, 40] }, ty, pos, after, none⟩ :: rest) a w :=
  wpl_of_run rfl (by
    simp only [execOp, resolve, invoke, builtin, Sem.run_bind, Sem.run_pure, Result.andThen_ok, List.map_toArray, List.map_cons, List.map_nil, hs, hx, run_appendNil A B n c d _ hc]) h
end
theorem zeroTg_one : ∀ v ∈ zeroTg.toList, v.oneCell' = true := by
  intro v hv
  have h : zeroTg.toList = TargetR.cs ⟨[], 0, zeroH, [], 0, []⟩ := by kernel_rfl
  rw [h] at hv
  exact tgR_one _ v hv
theorem run_clearT (g k c : Nat) (ty : TypeId) (w : World) (hth : w.there g k 37) : (Builtin.clear_ #[40] ty #[.slice (some ⟨g, k, none⟩) 1 c]).run Tryz.prog w = .ok (.tuple #[]) (w.setCells g k zeroTg.toList) := by
  have hv : ∀ w, (zeroValue 42).run Tryz.prog w = .ok (.agg zeroTg) w := fun _ => by kernel_rfl
  have hzc : (Builtin.zeroCells (Value.agg zeroTg).cells 1).toList = zeroTg.toList := by kernel_rfl
  have hst := run_storeCells_cells (P := Tryz.prog) g k zeroTg.toList 0 w (fun j hj => (hth j hj).1) (fun j hj => (hth j hj).2) zeroTg_one
  simp only [Nat.add_zero] at hst
  simp [Builtin.clear_, run_underlying Tryz.underlying40, hv, hzc, hst]
section
variable {ops : Array Oper} {rest : List Oper} {a : Act} {w : World} {Q : Exit → Act → World → Prop} {dst : Option Tmp} {ty : TypeId} {pos : String} {after : Array Edge}
theorem wpl_clearT {x : Operand} {A : Option Addr} {c d : Nat} {t0 : TargetR} (hx : a.eval x = .slice (cutA A 0 d 37) 1 c) (ho : HO w 42 37 A 1 d (cellsOf [t0])) (h : ∀ w', Step (rowOf A) w w' → HO w' 42 37 A 0 d (cellsOf ([] : List TargetR)) → wpList Tryz.prog ops Q rest (a.put dst (.tuple #[])) w') :
    wpList Tryz.prog ops Q (⟨dst, .call { callee := .builtin .clear, args := #[x], argTypes := #[40] }, ty, pos, after, none⟩ :: rest) a w := by
  have hl : (cellsOf [t0]).length = 37 := by rw [cellsOf_len]; rfl
  obtain ⟨g, hA, q1, q2, q3⟩ := own_setCells ho.out (k := 0) (cs := zeroTg.toList) (m := 37) rfl (by rw [hl]; decide) (by decide)
  subst hA
  have hc : 1 ≤ d := by
    rcases ho.out.form with ⟨h, _⟩ | ⟨_, _, _, _, h1, _⟩
    · cases h
    · exact h1
  have hcut : cutA (some ⟨g, 0, none⟩) 0 d 37 = some ⟨g, 0, none⟩ := by
    unfold cutA
    rw [if_neg (by omega)]
    rfl
  rw [hcut] at hx
  have h9 := h _ ⟨q3⟩ ⟨by
    have h1 := q2.cutTo (Nat.zero_le 1)
    rw [Nat.zero_mul, List.take_zero] at h1
    exact h1⟩
  exact wpl_of_run rfl (by
    simp only [execOp, resolve, invoke, builtin, Sem.run_bind, Sem.run_pure, Result.andThen_ok, List.map_toArray, List.map_cons, List.map_nil, hx, run_clearT g 0 c _ w q1]) h9
end
set_option maxRecDepth 100000 in
set_option maxHeartbeats 3200000 in
theorem delete1_calls {A : Option Addr} {d : Nat} {t0 : TargetR} {w : World} [ho : HO w 42 37 A 1 d (cellsOf [t0])] :
    Calls Tryz.prog 48 #[.slice A 1 d, .int .i64 0, .int .i64 1] w fun e w' => e = .returned (.slice A 0 d) ∧ Step (rowOf A) w w' ∧ HO w' 42 37 A 0 d (cellsOf ([] : List TargetR)) := by
  have hc : 1 ≤ d := by
    rcases ho.out.form with ⟨_, h, _⟩ | ⟨_, _, _, _, h1, _⟩
    · omega
    · exact h1
  go_enter Tryz.func48, Tryz.ntmps48
  go_wp2_with fail
  refine wp_region_N (nowhere) (by kernel_rfl) (fun wd _ _ => ?_)
  refine' takeH (i := 0) (v := _) rfl (by kernel_rfl) (by kernel_rfl) (by kernel_rfl) (fun _ _ _ h => h) (yields_of (by rfl) (fun w' _ => ?_)) inferInstance ?_
  rotate_left
  · (go_simp; try with_reducible rfl)
  try simp only [Act.put, sA]; try simp only [sB, sC]
  refine' takeH (i := 1) (v := _) rfl (by kernel_rfl) (by kernel_rfl) (by kernel_rfl) (fun _ _ _ h => h) (yields_of (by rfl) (fun w' _ => ?_)) inferInstance ?_
  rotate_left
  · (go_simp; try with_reducible rfl)
  try simp only [Act.put, sA]; try simp only [sB, sC]
  refine' takeH (i := 2) (v := _) rfl (by kernel_rfl) (by kernel_rfl) (by kernel_rfl) (fun _ _ _ h => h) (yields_of (by rfl) (fun w' _ => ?_)) inferInstance ?_
  rotate_left
  · ((with_reducible apply (ev_sl_h (m := 0))); (exact rfl); (exact rfl); infer_instance; (exact Nat.zero_le _))
  try simp only [Act.put, sA]; try simp only [sB, sC]
  refine' takeH (i := 3) (v := _) rfl (by kernel_rfl) (by kernel_rfl) (by kernel_rfl) (fun _ _ _ h => h) (yields_of (by rfl) (fun w' _ => ?_)) inferInstance ?_
  rotate_left
  · (go_simp; try with_reducible rfl)
  try simp only [Act.put, sA]; try simp only [sB, sC]
  refine' takeH (i := 4) (v := _) rfl (by kernel_rfl) (by kernel_rfl) (by kernel_rfl) (fun _ _ _ h => h) (yields_of (by rfl) (fun w' _ => ?_)) inferInstance ?_
  rotate_left
  · (go_simp; try with_reducible rfl)
  try simp only [Act.put, sA]; try simp only [sB, sC]
  refine' takeH (i := 5) (v := _) rfl (by kernel_rfl) (by kernel_rfl) (by kernel_rfl) (fun _ _ _ h => h) (yields_of (by rfl) (fun w' _ => ?_)) inferInstance ?_
  rotate_left
  · ((with_reducible apply (ev_sl_l (k := 1))); (exact rfl); (exact rfl); infer_instance; (exact Nat.le_refl _))
  try simp only [Act.put, sA]; try simp only [sB, sC]
  refine goH (i := 6) (by kernel_rfl) rfl (fun K_ hK_ => ?_)
  rw [if_pos (by kernel_rfl)]
  refine wpr_of_list ?_
  (first | ((with_reducible apply wpl_appendNil); (exact rfl); (exact rfl); (exact Nat.zero_le _)) | ((with_reducible apply wpl_appendB); (exact rfl); (exact rfl); infer_instance; (first | exact inferInstance | exact ⟨Own.nil _ _ _⟩); infer_instance; (first | (with_reducible assumption) | (with_reducible exact H32.len _) | (focus (simp; done)) | omega); (first | (with_reducible assumption) | omega); intro A' c' wa _ _ _ hcap) | ((with_reducible apply wpl_appendH); (exact rfl); (exact rfl); infer_instance; (first | exact inferInstance | exact ⟨Own.nil _ _ _⟩); infer_instance; (first | (with_reducible assumption) | omega); intro A' c' wa _ _ _ hcap) | ((with_reducible apply (wpl_appendR (α := TargetR))); (exact rfl); (exact rfl); infer_instance; (first | exact inferInstance | exact ⟨Own.nil _ _ _⟩); infer_instance; (exact rfl); (first | (with_reducible assumption) | (with_reducible exact H32.len _) | (focus (simp; done)) | omega); (first | (with_reducible assumption) | omega); (decide); (decide); intro A' c' wa _ _ _ hcap))
  refine wpList_nil ?_
  unfold onlyN
  refine hK_.out _ _ inferInstance (fun _ => ?_)
  clear hK_ K_
  try simp only [Act.put, sA]; try simp only [sB, sC]
  refine' takeH (i := 7) (v := _) rfl (by kernel_rfl) (by kernel_rfl) (by kernel_rfl) (fun _ _ _ h => h) (yields_of (by rfl) (fun w' _ => ?_)) inferInstance ?_
  rotate_left
  · (go_simp; try with_reducible rfl)
  try simp only [Act.put, sA]; try simp only [sC]
  refine wpAnyH_done (by kernel_rfl) ?_ _
  have ho5 : HO wd 42 37 A 1 d (cellsOf [t0]) := inferInstance
  go_wp2_with (first | ((with_reducible apply (wpl_sl_lh (k := 0) (m := 1))); (exact rfl); (exact rfl); (exact rfl); infer_instance; (exact Nat.zero_le _); (exact hc)) | ((with_reducible apply (wpl_clearT (A := A) (d := d) (t0 := t0))); (exact rfl); (exact ho5); intro wz _ hoz))
  go_ret
  exact ⟨rfl, stepC, hoz⟩
set_option maxRecDepth 100000 in
set_option maxHeartbeats 3200000 in
theorem remove1_calls {sd f : H32} {p0 p1 : Value} {g v : Int} {suf : List Value} {B : Option Addr} {d : Nat} {zr : Nat} (t0 : TargetR) {w : World} [hb : HB w zr 73 (rpL sd p0 p1 f g v (.slice B 1 d :: suf)).toArray] [ho : HO w 42 37 B 1 d (cellsOf [t0])] (hoff : OffB (rowOf B) zr) (hoffA : OffA (only zr) B) (hsuf : suf.length = 7) :
    Calls Tryz.prog 19 #[.pointer (some ⟨zr, 0, none⟩), .string (strL t0.l), .string (strL t0.ecu)] w fun e w' => e = .returned (.int .i64 0) ∧ Step (gzr zr B) w w' ∧ HB w' zr 73 (rpL sd p0 p1 f g v (.slice B 0 d :: suf)).toArray ∧ HO w' 42 37 B 0 d (cellsOf ([] : List TargetR)) := by
  have HLT : ∀ x, Hid (68 < (rpL sd p0 p1 f g v (x :: suf)).toArray.size) := fun x => Lib.hid (rp_lt sd p0 p1 f g v x suf hsuf)
  go_enter Tryz.func19, Tryz.ntmps19
  go_wp2_with fail
  refine (placeR_calls (T := [t0]) t0.l t0.ecu rfl (show 1 ≤ 1000000 by decide) (fun i j h1 h2 => by have : j < 1 := h2; omega)).mono ?_
  rintro e w6 ⟨k, rfl, hp6, st6⟩
  have hk0 : k = 0 := by
    rcases Nat.eq_zero_or_pos k with h | h
    · exact h
    · have h5 := hp6.out.2.1 0 h
      have h6 : tgLt t0 (keyT t0.l t0.ecu) = true := h5
      unfold tgLt keyT at h6
      simp [bytesLess_irr] at h6
  subst hk0
  have hb6 : HB w6 zr 73 (rpL sd p0 p1 f g v (.slice B 1 d :: suf)).toArray := inferInstance
  have ho6 : HO w6 42 37 B 1 d (cellsOf [t0]) := inferInstance
  have hin : inR [t0] (keyT t0.l t0.ecu) 0 = true := by
    unfold inR
    have e : gt [t0] 0 = t0 := rfl
    rw [e]
    simp [keyT]
  rw [hin]
  go_wp2_with (first | ((with_reducible apply (wpl_loadcellN (k := 68))); (exact rfl); (exact hb6); (exact rp_68 _ _ _ _ _ _ _ _)))
  refine (delete1_calls (t0 := t0)).mono ?_
  rintro e w7 ⟨rfl, st7, ho7⟩
  have hb7 : HB w7 zr 73 (rpL sd p0 p1 f g v (.slice B 1 d :: suf)).toArray := inferInstance
  go_wp2_with (first | ((with_reducible apply (wpl_storecell (k := 68))); (exact rfl); (exact rfl); (exact hb7); (exact rfl); (exact (HLT _).out); intro ws _ hwsr))
  have hw2 : HB ws zr 73 (rpL sd p0 p1 f g v (.slice B 0 d :: suf)).toArray := by
    rw [← rp_set68 sd p0 p1 f g v (.slice B 1 d)]
    exact hwsr
  have ho8 : HO ws 42 37 B 0 d (cellsOf ([] : List TargetR)) := inferInstance
  have e1 : Chg (gzr zr B) w w6 := (stepN (w0 := w) (w := w6)).chg.mono (T := gzr zr B) (fun _ _ h => h.elim)
  have e3 : Chg (only zr) w7 ws := (inferInstance : Step (only zr) w7 ws).chg
  go_ret
  exact ⟨rfl, ⟨(e1.trans st7.chg (fun _ _ h => .inr h)).trans e3 (fun _ _ h => .inl h)⟩, hw2, ho8⟩
end Go.Proofs.YteieielodooglaaGreat
