/- Rows of numbers. -/
import Derived.Test.YthoipeamdolfgaaDoorAuto7
open Go Go.RowKit
namespace Go.Proofs.YthoipeamdolfgaaDoor
def i64l (l : List Int) : List Value := l.map (.int .i64)
theorem i64l_at (l : List Int) (k : Nat) (h : k < l.length) : (i64l l)[k]? = some (.int .i64 (iget l k)) := by
  simp [i64l, iget, List.getD_eq_getElem?_getD, h]
section
variable {P : Program} {ops : Array Oper} {rest : List Oper} {a : Act} {w : World} {Q : Exit → Act → World → Prop} {dst : Option Tmp} {ty : TypeId} {pos : String} {after : Array Edge} {gd : Option (Nat × Bool)}
theorem ev_indexI {t : TypeId} {x ix : Operand} {A : Option Addr} {n c k : Nat} (hx : a.eval x = .slice A n c) (hi : a.eval ix = .int .i64 (k : Int)) {e : TypeId} {bytes : Nat} {z : Value} (E : ElemT P t e 1 bytes z) {l : List Int} (hr : HR w A (i64l l)) (hl : l.length = n) (h1 : k < n) :
    (execOp a.eval ⟨dst, .indexAddr t x ix, ty, pos, after, gd⟩).run P w = .ok (.value (ptrOf A k)) w := by
  obtain ⟨ad, hA, _⟩ := hr.out.lt (by rw [i64l, List.length_map, hl]; omega)
  obtain ⟨ti, hti, hz, hsz, hb⟩ := info_parts E.out.info
  show ((Instr.indexAt t (a.eval x) (a.eval ix)) >>= fun v => pure (Next.value v)).run P w = _
  rw [hx, hi, hA]
  simp [Instr.indexAt, asIntOf, run_underlying E.out.under, sizeOf, typeInfo, hti, hsz, h1, ptrOf, shift]
theorem ev_loadI {t : TypeId} {x : Operand} {A : Option Addr} {k : Nat} (hx : a.eval x = ptrOf A k) {l : List Int} (hr : HR w A (i64l l)) (ht : CellT P t) (hk : k < l.length) :
    (execOp a.eval ⟨dst, .load t x, ty, pos, after, gd⟩).run P w = .ok (.value (.int .i64 (iget l k))) w := by
  obtain ⟨ad, hA, hc⟩ := hr.out k _ (i64l_at l k hk)
  show ((Instr.loadAt t (a.eval x)) >>= fun v => pure (Next.value v)).run P w = _
  rw [hx, hA]
  simp [ptrOf, shift, Instr.loadAt, Instr.sureAddr, loadVar, ht.agg w, hc]
theorem wpl_indexI {t : TypeId} {x ix : Operand} {A : Option Addr} {n c k : Nat} (hx : a.eval x = .slice A n c) (hi : a.eval ix = .int .i64 (k : Int)) {e : TypeId} {bytes : Nat} {z : Value} (E : ElemT P t e 1 bytes z) {l : List Int} (hr : HR w A (i64l l)) (hl : l.length = n) (h1 : k < n)
    (h : wpList P ops Q rest (a.put dst (ptrOf A k)) w) : wpList P ops Q (⟨dst, .indexAddr t x ix, ty, pos, after, none⟩ :: rest) a w := wpl_of_run rfl (ev_indexI hx hi E hr hl h1) h
theorem wpl_loadI {t : TypeId} {x : Operand} {A : Option Addr} {k : Nat} (hx : a.eval x = ptrOf A k) {l : List Int} (hr : HR w A (i64l l)) (ht : CellT P t) (hk : k < l.length)
    (h : wpList P ops Q rest (a.put dst (.int .i64 (iget l k))) w) : wpList P ops Q (⟨dst, .load t x, ty, pos, after, none⟩ :: rest) a w := wpl_of_run rfl (ev_loadI hx hr ht hk) h
end
end Go.Proofs.YthoipeamdolfgaaDoor
