/- RowE, SnM -/
import Derived.Test.YtmnapacibpnodaaGreatUeBase
import Derived.Test.YtmnapacibpnodaaGreatUeTkM
section
open Go Go.RowKit
namespace Go.Proofs.YtmnapacibpnodaaGreat
def gt {α : Type} [RowC α] (l : List α) (k : Nat) : α := l.getD k RowC.zero
theorem gt_mem {α : Type} [RowC α] (l : List α) (k : Nat) (h : k < l.length) : gt l k ∈ l := by
  simp [gt, List.getD_eq_getElem?_getD, h]
theorem enc_sz {α : Type} [RowC α] (a : α) {n : Nat} (h : RowC.size α = n) : (RowC.enc a).toArray.size = n := by
  simp [RowC.len, h]
theorem enc_one {α : Type} [RowC α] (a : α) : (RowC.enc a).toArray.all (·.oneCell') = true := by
  rw [Array.all_eq_true_iff_forall_mem]
  intro x hx
  exact RowC.one a x (by simpa using hx)
section
variable {P : Program} {ops : Array Oper} {rest : List Oper} {a : Act} {w : World} {Q : Exit → Act → World → Prop} {dst : Option Tmp} {ty : TypeId} {pos : String} {after : Array Edge} {gd : Option (Nat × Bool)}
/-- the address of an element -/
theorem ev_indexE {α : Type} [RowC α] {t : TypeId} {x ix : Operand} {A : Option Addr} {n c k : Nat} (hx : a.eval x = .slice A n c) (hi : a.eval ix = .int .i64 (k : Int)) {e : TypeId} {size bytes : Nat} {z : Value} (E : ElemT P t e size bytes z)
    {l : List α} (hr : HR w A (cellsOf l)) (hl : l.length = n) (hs : RowC.size α = size) (hp : 0 < size) (h1 : k < n) :
    (execOp a.eval ⟨dst, .indexAddr t x ix, ty, pos, after, gd⟩).run P w = .ok (.value (ptrOf A (k * size))) w := by
  obtain ⟨ad, hA, _⟩ := hr.out.lt (by rw [cellsOf_len, hs, hl]; exact Nat.mul_pos (by omega) hp)
  obtain ⟨ti, hti, hz, hsz, hb⟩ := info_parts E.out.info
  show ((Instr.indexAt t (a.eval x) (a.eval ix)) >>= fun v => pure (Next.value v)).run P w = _
  rw [hx, hi, hA]
  simp [Instr.indexAt, asIntOf, run_underlying E.out.under, sizeOf, typeInfo, hti, hsz, h1, ptrOf, shift]
theorem ev_indexE0 {α : Type} [RowC α] {t : TypeId} {x : Operand} {A : Option Addr} {n c : Nat} (hx : a.eval x = .slice A n c) {e : TypeId} {size bytes : Nat} {z : Value} (E : ElemT P t e size bytes z)
    {l : List α} (hr : HR w A (cellsOf l)) (hl : l.length = n) (hs : RowC.size α = size) (hp : 0 < size) (h1 : 0 < n) :
    (execOp a.eval ⟨dst, .indexAddr t x (.const (.int .i64 0)), ty, pos, after, gd⟩).run P w = .ok (.value (ptrOf A (0 * size))) w :=
  ev_indexE (k := 0) hx rfl E hr hl hs hp h1
/-- a whole element -/
theorem ev_loadE {α : Type} [RowC α] {t : TypeId} {x : Operand} {A : Option Addr} {k n : Nat} (ht : RowT P t n) (hx : a.eval x = ptrOf A (k * n)) {l : List α} (hr : HR w A (cellsOf l)) (hs : RowC.size α = n) (hp : 0 < n) (hk : k < l.length) :
    (execOp a.eval ⟨dst, .load t x, ty, pos, after, gd⟩).run P w = .ok (.value (.agg (RowC.enc (gt l k)).toArray)) w := by
  show ((Instr.loadAt t (a.eval x)) >>= fun v => pure (Next.value v)).run P w = _
  subst hs
  rw [hx, Sem.run_bind, run_loadshift (k := k * RowC.size α) (cs := RowC.enc (gt l k)) hr.out ht (RowC.len _) (cellsOf_at l k hk) hp]
  rfl
/-- the address of a field of an element -/
theorem ev_fieldE {t : TypeId} {x : Operand} {i : Nat} {A : Option Addr} {k : Nat} {fs : Array Field} {f : Field} (hu : P.underlying t = some (.struct fs)) (hf : fs[i]? = some f) (hz : (P.info? f.type).map (fun i => decide (i.size = 0)) = some false) (hx : a.eval x = ptrOf A k) {vs : List Value} (hr : HR w A vs) (hl : 0 < vs.length) :
    (execOp a.eval ⟨dst, .fieldAddr t x i, ty, pos, after, gd⟩).run P w = .ok (.value (ptrOf A (k + f.offset))) w := by
  obtain ⟨ad, rfl, _⟩ := hr.out.lt hl
  show ((Instr.fieldAt t (a.eval x) i) >>= fun v => pure (Next.value v)).run P w = _
  rw [hx]
  cases hq : P.info? f.type with
  | none => rw [hq] at hz; simp at hz
  | some inf =>
    rw [hq] at hz
    simp at hz
    simp [Instr.fieldAt, run_underlying hu, hf, ptrOf, shift, Instr.sureAddr, fieldPlace, sizeOf, typeInfo, hq, hz, add_of_add]
/-- a field of an element -/
theorem ev_loadF {α : Type} [RowC α] {t : TypeId} {x : Operand} {A : Option Addr} {k j s : Nat} (ht : CellT P t) (hx : a.eval x = ptrOf A (k * s + j)) {l : List α} (hr : HR w A (cellsOf l)) (hs : RowC.size α = s) (hk : k < l.length) {v : Value} (hv : nth (RowC.enc (gt l k)) j = some v) :
    (execOp a.eval ⟨dst, .load t x, ty, pos, after, gd⟩).run P w = .ok (.value v) w := by
  subst hs
  rw [← nth_get] at hv
  have hj : j < RowC.size α := by
    have := (List.getElem?_eq_some_iff.1 hv).1
    rwa [RowC.len] at this
  have hat := cellsOf_at l k hk
  have hv2 : (cellsOf l)[k * RowC.size α + j]? = some v := by
    have h1 : (((cellsOf l).drop (k * RowC.size α)).take (RowC.size α))[j]? = (RowC.enc (gt l k))[j]? := by rw [hat]; rfl
    rw [List.getElem?_take, if_pos hj, List.getElem?_drop] at h1
    rw [h1, hv]
  obtain ⟨ad, rfl, hc⟩ := hr.out _ _ hv2
  show ((Instr.loadAt t (a.eval x)) >>= fun v => pure (Next.value v)).run P w = _
  rw [hx]
  simp [ptrOf, shift, Instr.loadAt, Instr.sureAddr, loadVar, ht.agg w, hc]
end
theorem cells_pos {α : Type} [RowC α] {l : List α} (hp : 0 < RowC.size α) (h : 0 < l.length) : 0 < (cellsOf l).length := by
  rw [cellsOf_len]
  exact Nat.mul_pos h hp
section
variable {P : Program} {ops : Array Oper} {rest : List Oper} {a : Act} {w : World} {Q : Exit → Act → World → Prop} {dst : Option Tmp} {ty : TypeId} {pos : String} {after : Array Edge}
theorem wpl_indexE {α : Type} [RowC α] {t : TypeId} {x ix : Operand} {A : Option Addr} {n c k : Nat} (hx : a.eval x = .slice A n c) (hi : a.eval ix = .int .i64 (k : Int)) {e : TypeId} {size bytes : Nat} {z : Value} (E : ElemT P t e size bytes z)
    {l : List α} (hr : HR w A (cellsOf l)) (hl : l.length = n) (hs : RowC.size α = size) (hp : 0 < size) (h1 : k < n)
    (h : wpList P ops Q rest (a.put dst (ptrOf A (k * size))) w) : wpList P ops Q (⟨dst, .indexAddr t x ix, ty, pos, after, none⟩ :: rest) a w := wpl_of_run rfl (ev_indexE hx hi E hr hl hs hp h1) h
theorem wpl_indexE0 {α : Type} [RowC α] {t : TypeId} {x : Operand} {A : Option Addr} {n c : Nat} (hx : a.eval x = .slice A n c) {e : TypeId} {size bytes : Nat} {z : Value} (E : ElemT P t e size bytes z)
    {l : List α} (hr : HR w A (cellsOf l)) (hl : l.length = n) (hs : RowC.size α = size) (hp : 0 < size) (h1 : 0 < n)
    (h : wpList P ops Q rest (a.put dst (ptrOf A (0 * size))) w) : wpList P ops Q (⟨dst, .indexAddr t x (.const (.int .i64 0)), ty, pos, after, none⟩ :: rest) a w := wpl_of_run rfl (ev_indexE0 hx E hr hl hs hp h1) h
theorem wpl_loadE {α : Type} [RowC α] {t : TypeId} {x : Operand} {A : Option Addr} {k n : Nat} (ht : RowT P t n) (hx : a.eval x = ptrOf A (k * n)) {l : List α} (hr : HR w A (cellsOf l)) (hs : RowC.size α = n) (hp : 0 < n) (hk : k < l.length)
    (h : wpList P ops Q rest (a.put dst (.agg (RowC.enc (gt l k)).toArray)) w) : wpList P ops Q (⟨dst, .load t x, ty, pos, after, none⟩ :: rest) a w := wpl_of_run rfl (ev_loadE ht hx hr hs hp hk) h
theorem wpl_fieldE {t : TypeId} {x : Operand} {i : Nat} {A : Option Addr} {k : Nat} {fs : Array Field} {f : Field} (hu : P.underlying t = some (.struct fs)) (hf : fs[i]? = some f) (hz : (P.info? f.type).map (fun i => decide (i.size = 0)) = some false) (hx : a.eval x = ptrOf A k) {vs : List Value} (hr : HR w A vs) (hl : 0 < vs.length)
    (h : wpList P ops Q rest (a.put dst (ptrOf A (k + f.offset))) w) : wpList P ops Q (⟨dst, .fieldAddr t x i, ty, pos, after, none⟩ :: rest) a w := wpl_of_run rfl (ev_fieldE hu hf hz hx hr hl) h
theorem wpl_loadF {α : Type} [RowC α] {t : TypeId} {x : Operand} {A : Option Addr} {k j s : Nat} (ht : CellT P t) (hx : a.eval x = ptrOf A (k * s + j)) {l : List α} (hr : HR w A (cellsOf l)) (hs : RowC.size α = s) (hk : k < l.length) {v : Value} (hv : nth (RowC.enc (gt l k)) j = some v)
    (h : wpList P ops Q rest (a.put dst v) w) : wpList P ops Q (⟨dst, .load t x, ty, pos, after, none⟩ :: rest) a w := wpl_of_run rfl (ev_loadF ht hx hr hs hk hv) h
end
end Go.Proofs.YtmnapacibpnodaaGreat
end
section
open Go Go.RowKit
namespace Go.Proofs.YtmnapacibpnodaaGreat
/-- a pin: its name's bytes, its version -/
structure PinR where
  l : List UInt8
  v : Int
instance rowCPin : RowC PinR := ⟨2, fun p => [.string (strL p.l), .int .i64 p.v], fun _ => rfl, fun p u hu => by
  simp only [List.mem_cons, List.not_mem_nil, or_false] at hu
  rcases hu with rfl | rfl <;> rfl, ⟨[], 0⟩⟩
def pinTk (s : RS) : PinR × RS := (⟨s.row.1, (s.row.2.num.1 : Nat)⟩, s.row.2.num.2)
def pinE (p : PinR) : List UInt8 := encRow p.l ++ encAll [p.v]
def pinOk (p : PinR) : Bool := nameL p.l && verB p.v
def pinLt (a b : PinR) : Bool := Op.bytesLess a.l b.l
/-- each above the one ahead of it, of the first -/
def riseB (P : List PinR) : Nat → Bool
  | 0 => true
  | k + 1 => riseB P k && (decide (k = 0) || pinLt (gt P (k - 1)) (gt P k))
def snapOk (v e : Int) (P : List PinR) : Bool := verB v && numB e && decide (P.length ≤ 16) && P.all pinOk && riseB P P.length
/-- a snapshot's bytes -/
def pinsE (P : List PinR) : List UInt8 := P.flatMap pinE
def snapE (v e : Int) (P : List PinR) : List UInt8 := encAll [3] ++ (encAll [v, e] ++ (encAll [(P.length : Int)] ++ pinsE P))
def snV (b : List UInt8) : Nat := (kindS 3 b).num.1
def snX (b : List UInt8) : Nat := ((kindS 3 b).at 1).num.1
def snS (b : List UInt8) : RS := (kindS 3 b).at 2
def snP (b : List UInt8) : List PinR := lstL pinTk 16 (snS b)
def snR (b : List UInt8) : RS := lstS pinTk 16 (snS b)
def snOk (b : List UInt8) : Bool := wholeB (snR b) && snapOk (snV b) (snX b) (snP b)
end Go.Proofs.YtmnapacibpnodaaGreat
end
