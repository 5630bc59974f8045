/- Slices of slices, elements of any type of many cells. -/
import Derived.Test.YthoipeamdolfgaaDoorAuto4
open Go Go.RowKit
namespace Go.Proofs.YthoipeamdolfgaaDoor
/-- the address that a slice of a slice has -/
def cutA (A : Option Addr) (k c s : Nat) : Option Addr := if c = k then A else shift A (k * s)
theorem HR.takeR {α : Type} [RowC α] {w : World} {A : Option Addr} {l : List α} (h : HR w A (cellsOf l)) (k : Nat) : HR w A (cellsOf (l.take k)) := ⟨by
  have := h.out.take (k * RowC.size α)
  rwa [cellsOf_take] at this⟩
theorem HR.cutR {α : Type} [RowC α] {w : World} {A : Option Addr} {l : List α} (h : HR w A (cellsOf l)) {n c : Nat} (hl : l.length = n) (hc : n ≤ c) (k s : Nat) (hs : RowC.size α = s) : HR w (cutA A k c s) (cellsOf (l.drop k)) := ⟨by
  subst hs
  unfold cutA
  split
  · rw [List.drop_eq_nil_of_le (by omega)]
    exact Rd.nil _ _
  · have := h.out.drop (k * RowC.size α)
    rwa [cellsOf_drop] at this⟩
section
variable {P : Program} {ops : Array Oper} {rest : List Oper} {a : Act} {w : World} {Q : Exit → Act → World → Prop} {dst : Option Tmp} {ty : TypeId} {pos : String} {after : Array Edge} {gd : Option (Nat × Bool)}
theorem run_sl_h {t e : TypeId} {size bytes : Nat} {z : Value} (E : ElemT P t e size bytes z) (A : Option Addr) (n c m : Nat) (hm : m ≤ c) (w : World) : (Instr.sliceAt t (.slice A n c) none (some (.int .i64 (m : Int))) none).run P w = .ok (.slice A m c) w := by
  obtain ⟨ti, hti, hz, hs, hb⟩ := info_parts E.out.info
  have e0 : (if c = 0 then A else Option.map (fun x => x.add 0) A) = A := by
    split
    · rfl
    · cases A <;> simp [add_zero_spot]
  simp [Instr.sliceAt, Instr.slice, run_underlying E.out.under, Instr.sliceBounds, Instr.sliceBound, asIntOf, sizeOf, typeInfo, hti, hm, e0]
theorem run_sl_l {t e : TypeId} {size bytes : Nat} {z : Value} (E : ElemT P t e size bytes z) (A : Option Addr) (n c k : Nat) (hk : k ≤ n) (w : World) : (Instr.sliceAt t (.slice A n c) (some (.int .i64 (k : Int))) none none).run P w = .ok (.slice (cutA A k c size) (n - k) (c - k)) w := by
  obtain ⟨ti, hti, hz, hs, hb⟩ := info_parts E.out.info
  simp [Instr.sliceAt, Instr.slice, run_underlying E.out.under, Instr.sliceBounds, Instr.sliceBound, asIntOf, sizeOf, typeInfo, hti, hs, hk, cutA, shift]
theorem run_sl_lh {t e : TypeId} {size bytes : Nat} {z : Value} (E : ElemT P t e size bytes z) (A : Option Addr) (n c k m : Nat) (hk : k ≤ m) (hm : m ≤ c) (w : World) : (Instr.sliceAt t (.slice A n c) (some (.int .i64 (k : Int))) (some (.int .i64 (m : Int))) none).run P w = .ok (.slice (cutA A k c size) (m - k) (c - k)) w := by
  obtain ⟨ti, hti, hz, hs, hb⟩ := info_parts E.out.info
  simp [Instr.sliceAt, Instr.slice, run_underlying E.out.under, Instr.sliceBounds, Instr.sliceBound, asIntOf, sizeOf, typeInfo, hti, hs, hk, hm, cutA, shift]
theorem ev_sl_h {t e : TypeId} {size bytes : Nat} {z : Value} {x y : Operand} {A : Option Addr} {n c m : Nat} (hx : a.eval x = .slice A n c) (hy : a.eval y = .int .i64 (m : Int)) (E : ElemT P t e size bytes z) (hm : m ≤ c) :
    (execOp a.eval ⟨dst, .slice t x none (some y) none, ty, pos, after, gd⟩).run P w = .ok (.value (.slice A m c)) w := by
  show ((Instr.sliceAt t (a.eval x) none (some (a.eval y)) none) >>= fun v => pure (Next.value v)).run P w = _
  rw [hx, hy, Sem.run_bind, run_sl_h E A n c m hm]
  rfl
theorem ev_sl_l {t e : TypeId} {size bytes : Nat} {z : Value} {x y : Operand} {A : Option Addr} {n c k : Nat} (hx : a.eval x = .slice A n c) (hy : a.eval y = .int .i64 (k : Int)) (E : ElemT P t e size bytes z) (hk : k ≤ n) :
    (execOp a.eval ⟨dst, .slice t x (some y) none none, ty, pos, after, gd⟩).run P w = .ok (.value (.slice (cutA A k c size) (n - k) (c - k))) w := by
  show ((Instr.sliceAt t (a.eval x) (some (a.eval y)) none none) >>= fun v => pure (Next.value v)).run P w = _
  rw [hx, hy, Sem.run_bind, run_sl_l E A n c k hk]
  rfl
theorem ev_sl_lh {t e : TypeId} {size bytes : Nat} {z : Value} {x y y2 : Operand} {A : Option Addr} {n c k m : Nat} (hx : a.eval x = .slice A n c) (hy : a.eval y = .int .i64 (k : Int)) (hy2 : a.eval y2 = .int .i64 (m : Int)) (E : ElemT P t e size bytes z) (hk : k ≤ m) (hm : m ≤ c) :
    (execOp a.eval ⟨dst, .slice t x (some y) (some y2) none, ty, pos, after, gd⟩).run P w = .ok (.value (.slice (cutA A k c size) (m - k) (c - k))) w := by
  show ((Instr.sliceAt t (a.eval x) (some (a.eval y)) (some (a.eval y2)) none) >>= fun v => pure (Next.value v)).run P w = _
  rw [hx, hy, hy2, Sem.run_bind, run_sl_lh E A n c k m hk hm]
  rfl
theorem ev_build {t : TypeId} {ps : List (Nat × Operand)} {cs : Array Value} (hr : (Instr.build t (ps.map fun (i, x) => (i, a.eval x)).toArray).run P w = .ok (.agg cs) w) :
    (execOp a.eval ⟨dst, .build t ps.toArray, ty, pos, after, gd⟩).run P w = .ok (.value (.agg cs)) w := by
  show ((Instr.build t (ps.toArray.map fun (i, x) => (i, a.eval x))) >>= fun v => pure (Next.value v)).run P w = _
  rw [Sem.run_bind, List.map_toArray, hr]
  rfl
theorem ev_indexH' {t : TypeId} {x ix : Operand} {A : Option Addr} {n c : Nat} {i : Int} (hx : a.eval x = .slice A n c) (hi : a.eval ix = .int .i64 i) {e : TypeId} {bytes : Nat} {z : Value} (E : ElemT P t e 32 bytes z)
    {l : List H32} (hr : HR w A (cellsOf l)) (hl : l.length = n) (h0 : 0 ≤ i) (h1 : i < n) :
    (execOp a.eval ⟨dst, .indexAddr t x ix, ty, pos, after, gd⟩).run P w = .ok (.value (ptrOf A (i.toNat * 32))) w := by
  obtain ⟨k, rfl⟩ : ∃ k : Nat, i = (k : Int) := ⟨i.toNat, by omega⟩
  exact ev_indexH hx hi E hr hl (by omega)
theorem stop_bs {t : TypeId} {len : Nat} {ps : Array (Nat × Operand)} (h : Stop (wpList P ops Q (⟨dst, .buildSlice t len ps, ty, pos, after, none⟩ :: rest) a w)) : wpList P ops Q (⟨dst, .buildSlice t len ps, ty, pos, after, none⟩ :: rest) a w := h
theorem nth_arr {cs : Array Value} {k : Nat} {v : Value} (h : nth cs.toList k = some v) : cs[k]? = some v := by
  rw [← nth_get] at h
  simpa using h
theorem wpl_loadcellN {t : TypeId} {x : Operand} {g k : Nat} (hx : a.eval x = .pointer (some ⟨g, k, none⟩)) {tb : TypeId} {cs : Array Value} (hb : HB w g tb cs) [ht : CellT P t] {v : Value} (hv : nth cs.toList k = some v)
    (h : wpList P ops Q rest (a.put dst v) w) : wpList P ops Q (⟨dst, .load t x, ty, pos, after, none⟩ :: rest) a w := wpl_loadcell hx hb (nth_arr hv) h
theorem ev_loadcellN {t : TypeId} {x : Operand} {g k : Nat} (hx : a.eval x = .pointer (some ⟨g, k, none⟩)) {tb : TypeId} {cs : Array Value} (hb : HB w g tb cs) (ht : CellT P t) {v : Value} (hv : nth cs.toList k = some v) :
    (execOp a.eval ⟨dst, .load t x, ty, pos, after, gd⟩).run P w = .ok (.value v) w := ev_loadcell hx hb ht (nth_arr hv)
theorem wpl_mineq {x y : Operand} {tx ty' : TypeId} {k : IntKind} {p q r : Int} (hx : a.eval x = .int k p) (hy : a.eval y = .int k q) (hr : min p q = r) (h : wpList P ops Q rest (a.put dst (.int k r)) w) :
    wpList P ops Q (⟨dst, .call { callee := .builtin .min, args := #[x, y], argTypes := #[tx, ty'] }, ty, pos, after, none⟩ :: rest) a w := by
  subst hr
  exact wpl_min hx hy h
theorem wpl_sl_h {t e : TypeId} {size bytes : Nat} {z : Value} {x y : Operand} {A : Option Addr} {n c m : Nat} (hx : a.eval x = .slice A n c) (hy : a.eval y = .int .i64 (m : Int)) (E : ElemT P t e size bytes z) (hm : m ≤ c)
    (h : wpList P ops Q rest (a.put dst (.slice A m c)) w) : wpList P ops Q (⟨dst, .slice t x none (some y) none, ty, pos, after, none⟩ :: rest) a w :=
  wpl_of_run rfl (ev_sl_h hx hy E hm) h
theorem wpl_sl_l {t e : TypeId} {size bytes : Nat} {z : Value} {x y : Operand} {A : Option Addr} {n c k : Nat} (hx : a.eval x = .slice A n c) (hy : a.eval y = .int .i64 (k : Int)) (E : ElemT P t e size bytes z) (hk : k ≤ n)
    (h : wpList P ops Q rest (a.put dst (.slice (cutA A k c size) (n - k) (c - k))) w) : wpList P ops Q (⟨dst, .slice t x (some y) none none, ty, pos, after, none⟩ :: rest) a w :=
  wpl_of_run rfl (ev_sl_l hx hy E hk) h
theorem wpl_sl_lh {t e : TypeId} {size bytes : Nat} {z : Value} {x y y2 : Operand} {A : Option Addr} {n c k m : Nat} (hx : a.eval x = .slice A n c) (hy : a.eval y = .int .i64 (k : Int)) (hy2 : a.eval y2 = .int .i64 (m : Int)) (E : ElemT P t e size bytes z) (hk : k ≤ m) (hm : m ≤ c)
    (h : wpList P ops Q rest (a.put dst (.slice (cutA A k c size) (m - k) (c - k))) w) : wpList P ops Q (⟨dst, .slice t x (some y) (some y2) none, ty, pos, after, none⟩ :: rest) a w :=
  wpl_of_run rfl (ev_sl_lh hx hy hy2 E hk hm) h
end
end Go.Proofs.YthoipeamdolfgaaDoor
