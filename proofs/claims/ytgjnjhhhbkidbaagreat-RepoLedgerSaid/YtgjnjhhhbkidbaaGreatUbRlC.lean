/- RlC -/
import Derived.Test.YtgjnjhhhbkidbaaGreatUbRlB
import Derived.ArgAppend
open Go Go.RowKit
namespace Go.Proofs.YtgjnjhhhbkidbaaGreat
/-- one target taken away -/
def delT (L : List TargetR) (k : Nat) : List TargetR := L.take k ++ L.drop (k + 1)
section
variable {P : Program} {ops : Array Oper} {rest : List Oper} {a : Act} {w : World} {Q : Exit → Act → World → Prop} {dst : Option Tmp} {ty : TypeId} {pos : String} {after : Array Edge}
theorem wpl_sl_lhm {t e : TypeId} {size bytes : Nat} {z : Value} {x y y2 y3 : Operand} {A : Option Addr} {n c k m q : Nat} (hx : a.eval x = .slice A n c) (hy : a.eval y = .int .i64 (k : Int)) (hy2 : a.eval y2 = .int .i64 (m : Int)) (hy3 : a.eval y3 = .int .i64 (q : Int)) (E : ElemT P t e size bytes z) (hk : k ≤ m) (hm : m ≤ q) (hq : q ≤ c)
    (h : ∀ v, wpList P ops Q rest (a.put dst v) w) : wpList P ops Q (⟨dst, .slice t x (some y) (some y2) (some y3), ty, pos, after, none⟩ :: rest) a w := by
  obtain ⟨ti, hti, hz, hs, hb⟩ := info_parts E.out.info
  refine wpl_of_run rfl (v := .slice (cutA A k q size) (m - k) (q - k)) ?_ (h _)
  show ((Instr.sliceAt t (a.eval x) (some (a.eval y)) (some (a.eval y2)) (some (a.eval y3))) >>= fun v => pure (Next.value v)).run P w = _
  rw [hx, hy, hy2, hy3, Sem.run_bind]
  simp [Instr.sliceAt, Instr.slice, run_underlying E.out.under, Instr.sliceBounds, Instr.sliceBound, asIntOf, sizeOf, typeInfo, hti, hs, hk, hm, hq, cutA, shift]
end
section
variable {ops : Array Oper} {rest : List Oper} {a : Act} {w : World} {Q : Exit → Act → World → Prop} {dst : Option Tmp} {ty : TypeId} {pos : String} {after : Array Edge}
theorem wpl_appendInT {s x : Operand} {A S : Option Addr} {n c k m p c2 : Nat} {L news : List TargetR} (hs : a.eval s = .slice A k c) (hx : a.eval x = .slice S m c2) (ho : HO w 42 37 A n c (cellsOf L)) (hr : HR w S (cellsOf news)) (hl : L.length = n) (hn : news.length = m) (hk : k + m ≤ n) (hp : k + m = p)
    (h : ∀ w', Step (rowOf A) w w' → HO w' 42 37 A n c (cellsOf (L.take k ++ news ++ L.drop p)) → wpList Tryz.prog ops Q rest (a.put dst (.slice A p c)) w') :
    wpList Tryz.prog ops Q (⟨dst, .call { callee := .builtin .append, args := #[s, x], argTypes := #[40, 40] }, ty, pos, after, none⟩ :: rest) a w := by
  subst hp
  have hcap := own_capL ho.out
  rcases Nat.eq_zero_or_pos m with h0 | h0
  · subst h0
    have e : news = [] := List.eq_nil_of_length_eq_zero hn
    subst e
    have h9 := h w ⟨Chg.refl _ _⟩ (by rw [List.append_nil, Nat.add_zero, List.take_append_drop]; exact ho)
    exact wpl_of_run rfl (by
      simp only [execOp, resolve, invoke, builtin, Sem.run_bind, Sem.run_pure, Result.andThen_ok, List.map_toArray, List.map_cons, List.map_nil, hs, hx, run_appendNil A S k c c2 _ (show k ≤ c by omega)]
      rfl) h9
  · have E : ElemT Tryz.prog 40 42 37 _ _ := inferInstance
    obtain ⟨ti, hti, hz, hsz, hb⟩ := info_parts E.out.info
    have hcl : (cellsOf news).length = m * 37 := by rw [cellsOf_len, hn]; rfl
    have hLl : (cellsOf L).length = n * 37 := by rw [cellsOf_len, hl]; rfl
    obtain ⟨g, rfl, q1, q2, q3⟩ := own_setCells ho.out (k := k * 37) (m := m * 37) hcl (by rw [hLl, ← Nat.add_mul]; exact Nat.mul_le_mul_right _ hk) (by omega)
    obtain ⟨ad, rfl, _⟩ := hr.out.lt (by omega)
    have hrun := run_append_room_cells (P := Tryz.prog) (w := w) 40 ty 42 ti E.out.under hti g 0 k c ad m c2 (cellsOf news) (by rw [hcl, hsz]) (fun j u hj => by
      obtain ⟨ad', e, h⟩ := hr.out j u hj
      have e' := Option.some.inj e
      rw [e']
      exact h) (cellsOf_one _) (by omega) (fun j hj => by rw [hsz, Nat.zero_add]; exact (q1 j (by omega)).1) (fun j hj => by rw [hsz, Nat.zero_add]; exact (q1 j (by omega)).2)
    rw [hsz, Nat.zero_add] at hrun
    have e9 : (cellsOf L).take (k * 37) ++ cellsOf news ++ (cellsOf L).drop (k * 37 + m * 37) = cellsOf (L.take k ++ news ++ L.drop (k + m)) := by
      rw [cellsOf_app, cellsOf_app, show k * 37 + m * 37 = (k + m) * 37 by omega]
      rw [show (cellsOf L).take (k * 37) = cellsOf (L.take k) from cellsOf_take L k, show (cellsOf L).drop ((k + m) * 37) = cellsOf (L.drop (k + m)) from cellsOf_drop L (k + m)]
    rw [e9] at q2
    exact wpl_of_run rfl (by
      simp only [execOp, resolve, invoke, builtin, Sem.run_bind, Sem.run_pure, Result.andThen_ok, List.map_toArray, List.map_cons, List.map_nil, hs, hx, hrun]) (h _ ⟨q3⟩ ⟨q2⟩)
theorem wpl_clearL {x : Operand} {A : Option Addr} {c k q len : Nat} {L : List TargetR} (hx : a.eval x = .slice (cutA A k c 37) len q) (hlen : len = 1) (ho : HO w 42 37 A (k + 1) c (cellsOf L)) (hl : L.length = k + 1) (h : ∀ w', Step (rowOf A) w w' → HO w' 42 37 A k c (cellsOf (L.take k)) → wpList Tryz.prog ops Q rest (a.put dst (.tuple #[])) w') :
    wpList Tryz.prog ops Q (⟨dst, .call { callee := .builtin .clear, args := #[x], argTypes := #[40] }, ty, pos, after, none⟩ :: rest) a w := by
  subst hlen
  have hcap := own_capL ho.out
  have hLl : (cellsOf L).length = (k + 1) * 37 := by rw [cellsOf_len, hl]; rfl
  obtain ⟨g, rfl, q1, q2, q3⟩ := own_setCells ho.out (k := k * 37) (cs := zeroTg.toList) (m := 37) rfl (by rw [hLl]; omega) (by decide)
  rw [cutA_shift _ k c 37 (by omega), shift_some, add_row] at hx
  have h9 := h _ ⟨q3⟩ ⟨by
    have h1 := q2.cutTo (Nat.le_succ k)
    have htl : ((cellsOf L).take (k * 37)).length = k * 37 := by rw [List.length_take, hLl]; omega
    rw [List.append_assoc, List.take_left' htl, show (cellsOf L).take (k * 37) = cellsOf (L.take k) from cellsOf_take L k] at h1
    exact h1⟩
  exact wpl_of_run rfl (by
    simp only [execOp, resolve, invoke, builtin, Sem.run_bind, Sem.run_pure, Result.andThen_ok, List.map_toArray, List.map_cons, List.map_nil, hx, run_clearT g (k * 37) q _ w q1]) h9
end
set_option maxRecDepth 100000 in
set_option maxHeartbeats 3200000 in
theorem delM_calls {A : Option Addr} {p c k : Nat} {L : List TargetR} {w : World} [ho : HO w 42 37 A (p + 1) c (cellsOf L)] (hl : L.length = p + 1) (hk : k ≤ p) (_ : p ≤ 1000000) :
    Calls Tryz.prog 42 #[.slice A (p + 1) c, .int .i64 (k : Int), .int .i64 ((k : Int) + 1)] w fun e w' => e = .returned (.slice A p c) ∧ Step (rowOf A) w w' ∧ HO w' 42 37 A p c (cellsOf (delT L k)) := by
  have hc := own_capL ho.out
  have hkc : k ≤ c := by omega
  have hk1 : k + 1 ≤ p + 1 := by omega
  have hpc : p + 1 ≤ c := hc
  have hrc : HR w (cutA A (k + 1) c 37) (cellsOf (L.drop (k + 1))) := (⟨ho.out.rd⟩ : HR w A (cellsOf L)).cutR hl hc (k + 1) 37 rfl
  have hdl : (L.drop (k + 1)).length = p + 1 - (k + 1) := by rw [List.length_drop, hl]
  have hkm : k + (p + 1 - (k + 1)) ≤ p + 1 := by omega
  have hkp : k + (p + 1 - (k + 1)) = p := by omega
  have hdl2 : (L.drop (k + 1)).length = p - k := by rw [hdl]; omega
  have hkm2 : k + (p - k) ≤ p + 1 := by omega
  have hkp2 : k + (p - k) = p := by omega
  have hne : ¬ (k : Int) = (k : Int) + 1 := by omega
  have HNE : Hid (((k : Int) == (k : Int) + 1) = false) := Lib.hid (by simpa using hne)
  have hppI : (p : Int) + 1 ≤ (p : Int) + 1 := Int.le_refl _
  have hp1 : p ≤ p + 1 := Nat.le_succ p
  go_enter Tryz.func42, Tryz.ntmps42
  go_wp2_with (first | ((with_reducible apply (wpl_sl_lhm (k := k) (m := k + 1) (q := p + 1))); (exact rfl); (exact rfl); (exact rfl); (exact rfl); infer_instance; (exact Nat.le_succ k); (exact hk1); (exact hpc); intro vv))
  refine wp_region_N ((rowOf A)) (by kernel_rfl) (fun wd _ _ => ?_)
  refine' takeH (i := 0) (v := _) rfl (by kernel_rfl) (by kernel_rfl) (by kernel_rfl) (fun _ _ _ h => h) (yields_of (by rfl) (fun w' _ => ?_)) inferInstance ?_
  rotate_left
  · (go_simp; try with_reducible rfl)
  try simp only [Act.put, sA]; try simp only [sB, sC]
  refine' takeH (i := 1) (v := _) rfl (by kernel_rfl) (by kernel_rfl) (by kernel_rfl) (fun _ _ _ h => h) (yields_of (by rfl) (fun w' _ => ?_)) inferInstance ?_
  rotate_left
  · (go_simp; try with_reducible rfl)
  try simp only [Act.put, sA]; try simp only [sB, sC]
  refine' takeH (i := 2) (v := _) rfl (by kernel_rfl) (by kernel_rfl) (by kernel_rfl) (fun _ _ _ h => h) (yields_of (by rfl) (fun w' _ => ?_)) inferInstance ?_
  rotate_left
  · ((with_reducible apply (ev_sl_h (m := k))); (exact rfl); (exact rfl); infer_instance; (exact hkc))
  try simp only [Act.put, sA]; try simp only [sB, sC]
  refine' takeH (i := 3) (v := _) rfl (by kernel_rfl) (by kernel_rfl) (by kernel_rfl) (fun _ _ _ h => h) (yields_of (by rfl) (fun w' _ => ?_)) inferInstance ?_
  rotate_left
  · (go_simp; try with_reducible rfl)
  try simp only [Act.put, sA]; try simp only [sB, sC]
  refine' takeH (i := 4) (v := _) rfl (by kernel_rfl) (by kernel_rfl) (by kernel_rfl) (fun _ _ _ h => h) (yields_of (by rfl) (fun w' _ => ?_)) inferInstance ?_
  rotate_left
  · (go_simp; try with_reducible rfl)
  try simp only [Act.put, sA]; try simp only [sB, sC]
  refine' takeH (i := 5) (v := _) rfl (by kernel_rfl) (by kernel_rfl) (by kernel_rfl) (fun _ _ _ h => h) (yields_of (by rfl) (fun w' _ => ?_)) inferInstance ?_
  rotate_left
  · ((with_reducible apply (ev_sl_l (k := k + 1))); (exact rfl); (exact rfl); infer_instance; (exact hk1))
  try simp only [Act.put, sA]; try simp only [sB, sC]
  refine goH (i := 6) (by kernel_rfl) rfl (fun K_ hK_ => ?_)
  rw [if_pos (by kernel_rfl)]
  refine wpr_of_list ?_
  (first | ((with_reducible apply (wpl_appendInT (p := p) (news := L.drop (k + 1)))); (exact rfl); (exact rfl); infer_instance; infer_instance; (exact hl); (first | exact hdl | exact hdl2); (first | exact hkm | exact hkm2); (first | exact hkp | exact hkp2); intro w5 st5 ho5) | ((with_reducible apply wpl_appendB); (exact rfl); (exact rfl); infer_instance; (first | exact inferInstance | exact ⟨Own.nil _ _ _⟩); infer_instance; (first | (with_reducible assumption) | (with_reducible exact H32.len _) | (focus (simp; done)) | omega); (first | (with_reducible assumption) | omega); intro A' c' wa _ _ _ hcap) | ((with_reducible apply wpl_appendH); (exact rfl); (exact rfl); infer_instance; (first | exact inferInstance | exact ⟨Own.nil _ _ _⟩); infer_instance; (first | (with_reducible assumption) | omega); intro A' c' wa _ _ _ hcap) | ((with_reducible apply (wpl_appendR (α := TargetR))); (exact rfl); (exact rfl); infer_instance; (first | exact inferInstance | exact ⟨Own.nil _ _ _⟩); infer_instance; (exact rfl); (first | (with_reducible assumption) | (with_reducible exact H32.len _) | (focus (simp; done)) | omega); (first | (with_reducible assumption) | omega); (decide); (decide); intro A' c' wa _ _ _ hcap))
  refine wpList_nil ?_
  unfold onlyN
  refine hK_.out _ _ inferInstance (fun _ => ?_)
  clear hK_ K_
  try simp only [Act.put, sA]; try simp only [sB, sC]
  refine' takeH (i := 7) (v := _) rfl (by kernel_rfl) (by kernel_rfl) (by kernel_rfl) (fun _ _ _ h => h) (yields_of (by rfl) (fun w' _ => ?_)) inferInstance ?_
  rotate_left
  · (go_simp; try with_reducible rfl)
  try simp only [Act.put, sA]; try simp only [sC]
  refine wpAnyH_done (by kernel_rfl) ?_ _
  have hl5 : (L.take k ++ L.drop (k + 1) ++ L.drop p).length = p + 1 := by
    rw [List.length_append, List.length_append, List.length_take, List.length_drop, List.length_drop, hl]
    omega
  have htk : (L.take k ++ L.drop (k + 1) ++ L.drop p).take p = delT L k := by
    rw [List.take_left']
    · rfl
    · rw [List.length_append, List.length_take, List.length_drop, hl]
      omega
  go_wp2_with (first | ((with_reducible apply (wpl_sl_lh (k := p) (m := p + 1))); (exact rfl); (exact rfl); (exact rfl); infer_instance; (exact Nat.le_succ p); (exact hpc)) | ((with_reducible apply (wpl_clearL (A := A) (k := p))); (exact rfl); (omega); (exact ho5); (exact hl5); intro wz _ hoz))
  go_ret
  rw [htk] at hoz
  exact ⟨rfl, stepC, hoz⟩
end Go.Proofs.YtgjnjhhhbkidbaaGreat
