/- Rules for elements and their fields; what the table says of the types. -/
import Derived.Test.YtojbbmgghhmgmaaFdT
open Go Go.RowKit
namespace Go.Proofs.Ytojbbmgghhmgmaa
theorem cells_pos {α : Type} [RowC α] {l : List α} (hp : 0 < RowC.size α) (h : 0 < l.length) : 0 < (cellsOf l).length := by
  rw [cellsOf_len]
  exact Nat.mul_pos h hp
section
variable {P : Program} {ops : Array Oper} {rest : List Oper} {a : Act} {w : World} {Q : Exit → Act → World → Prop} {dst : Option Tmp} {ty : TypeId} {pos : String} {after : Array Edge}
theorem wpl_indexE {α : Type} [RowC α] {t : TypeId} {x ix : Operand} {A : Option Addr} {n c k : Nat} (hx : a.eval x = .slice A n c) (hi : a.eval ix = .int .i64 (k : Int)) {e : TypeId} {size bytes : Nat} {z : Value} (E : ElemT P t e size bytes z)
    {l : List α} (hr : HR w A (cellsOf l)) (hl : l.length = n) (hs : RowC.size α = size) (hp : 0 < size) (h1 : k < n)
    (h : wpList P ops Q rest (a.put dst (ptrOf A (k * size))) w) : wpList P ops Q (⟨dst, .indexAddr t x ix, ty, pos, after, none⟩ :: rest) a w := wpl_of_run rfl (ev_indexE hx hi E hr hl hs hp h1) h
theorem wpl_indexE0 {α : Type} [RowC α] {t : TypeId} {x : Operand} {A : Option Addr} {n c : Nat} (hx : a.eval x = .slice A n c) {e : TypeId} {size bytes : Nat} {z : Value} (E : ElemT P t e size bytes z)
    {l : List α} (hr : HR w A (cellsOf l)) (hl : l.length = n) (hs : RowC.size α = size) (hp : 0 < size) (h1 : 0 < n)
    (h : wpList P ops Q rest (a.put dst (ptrOf A (0 * size))) w) : wpList P ops Q (⟨dst, .indexAddr t x (.const (.int .i64 0)), ty, pos, after, none⟩ :: rest) a w := wpl_of_run rfl (ev_indexE0 hx E hr hl hs hp h1) h
theorem wpl_loadE {α : Type} [RowC α] {t : TypeId} {x : Operand} {A : Option Addr} {k n : Nat} (ht : RowT P t n) (hx : a.eval x = ptrOf A (k * n)) {l : List α} (hr : HR w A (cellsOf l)) (hs : RowC.size α = n) (hp : 0 < n) (hk : k < l.length)
    (h : wpList P ops Q rest (a.put dst (.agg (RowC.enc (gt l k)).toArray)) w) : wpList P ops Q (⟨dst, .load t x, ty, pos, after, none⟩ :: rest) a w := wpl_of_run rfl (ev_loadE ht hx hr hs hp hk) h
theorem wpl_fieldE {t : TypeId} {x : Operand} {i : Nat} {A : Option Addr} {k : Nat} {fs : Array Field} {f : Field} (hu : P.underlying t = some (.struct fs)) (hf : fs[i]? = some f) (hz : (P.info? f.type).map (fun i => decide (i.size = 0)) = some false) (hx : a.eval x = ptrOf A k) {vs : List Value} (hr : HR w A vs) (hl : 0 < vs.length)
    (h : wpList P ops Q rest (a.put dst (ptrOf A (k + f.offset))) w) : wpList P ops Q (⟨dst, .fieldAddr t x i, ty, pos, after, none⟩ :: rest) a w := wpl_of_run rfl (ev_fieldE hu hf hz hx hr hl) h
theorem wpl_loadF {α : Type} [RowC α] {t : TypeId} {x : Operand} {A : Option Addr} {k j s : Nat} (ht : CellT P t) (hx : a.eval x = ptrOf A (k * s + j)) {l : List α} (hr : HR w A (cellsOf l)) (hs : RowC.size α = s) (hk : k < l.length) {v : Value} (hv : nth (RowC.enc (gt l k)) j = some v)
    (h : wpList P ops Q rest (a.put dst v) w) : wpList P ops Q (⟨dst, .load t x, ty, pos, after, none⟩ :: rest) a w := wpl_of_run rfl (ev_loadF ht hx hr hs hk hv) h
end
section
variable {P : Program} {fn : Func} {R : Ending → World → Prop} {a : Act} {w : World}
end
instance : RowT Try.prog 72 37 := ⟨by kernel_rfl, _, Try.underlying72, rfl⟩
instance : RowT Try.prog 68 5 := ⟨by kernel_rfl, _, Try.underlying68, rfl⟩
instance : RowT Try.prog 63 5 := ⟨by kernel_rfl, _, Try.underlying63, rfl⟩
instance : ZeroT Try.prog 72 (RowC.enc zTG).toArray := ⟨.agg (RowC.enc zTG).toArray, fun _ => by kernel_rfl, rfl⟩
instance : ZeroT Try.prog 68 (RowC.enc zDL).toArray := ⟨.agg (RowC.enc zDL).toArray, fun _ => by kernel_rfl, rfl⟩
instance : ZeroT Try.prog 63 (RowC.enc zTS).toArray := ⟨.agg (RowC.enc zTS).toArray, fun _ => by kernel_rfl, rfl⟩
instance : CellT Try.prog 9 := ⟨fun _ => by kernel_rfl, fun _ => by kernel_rfl⟩
instance : CellT Try.prog 4 := ⟨fun _ => by kernel_rfl, fun _ => by kernel_rfl⟩
instance : CellT Try.prog 61 := ⟨fun _ => by kernel_rfl, fun _ => by kernel_rfl⟩
instance : CellT Try.prog 60 := ⟨fun _ => by kernel_rfl, fun _ => by kernel_rfl⟩
instance : CellT Try.prog 58 := ⟨fun _ => by kernel_rfl, fun _ => by kernel_rfl⟩
instance : CellT Try.prog 93 := ⟨fun _ => by kernel_rfl, fun _ => by kernel_rfl⟩
instance : CellT Try.prog 95 := ⟨fun _ => by kernel_rfl, fun _ => by kernel_rfl⟩
instance : ElemT Try.prog 61 72 37 96 (.agg (RowC.enc zTG).toArray) := ⟨⟨Try.underlying61, by kernel_rfl, rfl, by decide⟩⟩
instance : ElemT Try.prog 60 68 5 72 (.agg (RowC.enc zDL).toArray) := ⟨⟨Try.underlying60, by kernel_rfl, rfl, by decide⟩⟩
instance : ElemT Try.prog 58 63 5 80 (.agg (RowC.enc zTS).toArray) := ⟨⟨Try.underlying58, by kernel_rfl, rfl, by decide⟩⟩
end Go.Proofs.Ytojbbmgghhmgmaa
