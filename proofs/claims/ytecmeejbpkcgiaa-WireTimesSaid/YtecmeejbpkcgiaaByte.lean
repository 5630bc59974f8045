/- Rows of bytes: a byte's address, a byte loaded; numbers compared. -/
import Derived.Test.YtecmeejbpkcgiaaBase
open Go Go.RowKit
namespace Go.Proofs.Ytecmeejbpkcgiaa
section
variable {P : Program} {ops : Array Oper} {rest : List Oper} {a : Act} {w : World} {Q : Exit → Act → World → Prop} {dst : Option Tmp} {ty : TypeId} {pos : String} {after : Array Edge} {gd : Option (Nat × Bool)}
/-- the address of a byte in a slice -/
theorem ev_indexB {t : TypeId} {x ix : Operand} {A : Option Addr} {n c k : Nat} (hx : a.eval x = .slice A n c) (hi : a.eval ix = .int .i64 (k : Int)) {e : TypeId} {bytes : Nat} {z : Value} (E : ElemT P t e 1 bytes z) {xs : List UInt8} (hr : HR w A (bs xs)) (hl : xs.length = n) (h1 : k < n) :
    (execOp a.eval ⟨dst, .indexAddr t x ix, ty, pos, after, gd⟩).run P w = .ok (.value (ptrOf A k)) w := by
  obtain ⟨ad, hA, _⟩ := hr.out.lt (by rw [bs_length, hl]; omega)
  obtain ⟨ti, hti, hz, hsz, hb⟩ := info_parts E.out.info
  show ((Instr.indexAt t (a.eval x) (a.eval ix)) >>= fun v => pure (Next.value v)).run P w = _
  rw [hx, hi, hA]
  simp [Instr.indexAt, asIntOf, run_underlying E.out.under, sizeOf, typeInfo, hti, hsz, h1, ptrOf, shift]
theorem ev_indexB0 {t : TypeId} {x : Operand} {A : Option Addr} {n c : Nat} (hx : a.eval x = .slice A n c) {e : TypeId} {bytes : Nat} {z : Value} (E : ElemT P t e 1 bytes z) {xs : List UInt8} (hr : HR w A (bs xs)) (hl : xs.length = n) (h1 : 0 < n) :
    (execOp a.eval ⟨dst, .indexAddr t x (.const (.int .i64 0)), ty, pos, after, gd⟩).run P w = .ok (.value (ptrOf A 0)) w := ev_indexB (k := 0) hx rfl E hr hl h1
theorem ev_loadB {t : TypeId} {x : Operand} {A : Option Addr} {k : Nat} (hx : a.eval x = ptrOf A k) {xs : List UInt8} (hr : HR w A (bs xs)) (ht : CellT P t) (hk : k < xs.length) :
    (execOp a.eval ⟨dst, .load t x, ty, pos, after, gd⟩).run P w = .ok (.value (.int .u8 ((bget xs k).toNat : Int))) w := by
  obtain ⟨ad, b, hA, hb, hc⟩ := hr.out.byte hk
  have e : bget xs k = b := by simp [bget, List.getD_eq_getElem?_getD, hb]
  show ((Instr.loadAt t (a.eval x)) >>= fun v => pure (Next.value v)).run P w = _
  rw [hx, hA, e]
  simp [ptrOf, shift, Instr.loadAt, Instr.sureAddr, loadVar, ht.agg w, hc]
theorem ev_sl_l1 {t e : TypeId} {size bytes : Nat} {z : Value} {x : Operand} {A : Option Addr} {n c : Nat} (hx : a.eval x = .slice A n c) (E : ElemT P t e size bytes z) (h1 : 1 ≤ n) :
    (execOp a.eval ⟨dst, .slice t x (some (.const (.int .i64 1))) none none, ty, pos, after, gd⟩).run P w = .ok (.value (.slice (cutA A 1 c size) (n - 1) (c - 1))) w := ev_sl_l (k := 1) hx rfl E h1
theorem wpl_indexB {t : TypeId} {x ix : Operand} {A : Option Addr} {n c k : Nat} (hx : a.eval x = .slice A n c) (hi : a.eval ix = .int .i64 (k : Int)) {e : TypeId} {bytes : Nat} {z : Value} (E : ElemT P t e 1 bytes z) {xs : List UInt8} (hr : HR w A (bs xs)) (hl : xs.length = n) (h1 : k < n)
    (h : wpList P ops Q rest (a.put dst (ptrOf A k)) w) : wpList P ops Q (⟨dst, .indexAddr t x ix, ty, pos, after, none⟩ :: rest) a w := wpl_of_run rfl (ev_indexB hx hi E hr hl h1) h
theorem wpl_indexB0 {t : TypeId} {x : Operand} {A : Option Addr} {n c : Nat} (hx : a.eval x = .slice A n c) {e : TypeId} {bytes : Nat} {z : Value} (E : ElemT P t e 1 bytes z) {xs : List UInt8} (hr : HR w A (bs xs)) (hl : xs.length = n) (h1 : 0 < n)
    (h : wpList P ops Q rest (a.put dst (ptrOf A 0)) w) : wpList P ops Q (⟨dst, .indexAddr t x (.const (.int .i64 0)), ty, pos, after, none⟩ :: rest) a w := wpl_of_run rfl (ev_indexB0 hx E hr hl h1) h
theorem wpl_loadB {t : TypeId} {x : Operand} {A : Option Addr} {k : Nat} (hx : a.eval x = ptrOf A k) {xs : List UInt8} (hr : HR w A (bs xs)) (ht : CellT P t) (hk : k < xs.length)
    (h : wpList P ops Q rest (a.put dst (.int .u8 ((bget xs k).toNat : Int))) w) : wpList P ops Q (⟨dst, .load t x, ty, pos, after, none⟩ :: rest) a w := wpl_of_run rfl (ev_loadB hx hr ht hk) h
end
theorem beqF {a b : Int} (h : ¬ a = b) : (a == b) = false := by simpa using h
theorem beqT {a b : Int} (h : a = b) : (a == b) = true := by simpa using h
theorem bneT {a b : Int} (h : ¬ a = b) : (a != b) = true := by simpa using h
theorem bneF {a b : Int} (h : a = b) : (a != b) = false := by simpa using h
end Go.Proofs.Ytecmeejbpkcgiaa
