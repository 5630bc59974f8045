/- What is known of memory, found by itself: each fact is a class; each step of the world carries the facts over. -/
import Derived.Test.YthoipeamdolfgaaDoorArr
import Derived.Laws.ResultCell
open Go Go.RowKit
namespace Go.Proofs.YthoipeamdolfgaaDoor
class Fact' (p : Prop) : Prop where
  out : p
/-- one step of the world: what may have changed -/
class Step (S : outParam (Nat → Prop)) (w : outParam World) (w' : World) : Prop where
  chg : Chg S w w'
/-- the block that was made in this world -/
class Born (w : outParam World) (z : Nat) : Prop where
  eq : z = w.heap.size
/-- a block known whole -/
class HB (w : World) (g : Nat) (t : outParam TypeId) (cs : outParam (Array Value)) : Prop where
  out : Blk w g t cs
/-- a slice that reads as a list of cells -/
class HR (w : World) (A : Option Addr) (vs : outParam (List Value)) : Prop where
  out : Rd w A vs
/-- a row of the call's own -/
class HO (w : World) (e : outParam TypeId) (size : outParam Nat) (A : Option Addr) (n c : outParam Nat) (xs : outParam (List Value)) : Prop where
  out : Own w e size A n c xs
/-- it lies in what was made since -/
class NewA (w : outParam World) (A : Option Addr) : Prop where
  out : ∀ ad, A = some ad → w.heap.size ≤ ad.block
/-- only what is new has changed since -/
class Nw (w0 w : World) : Prop where
  out : Chg nowhere w0 w
def only (z : Nat) : Nat → Prop := fun k => k = z
def rowOf (A : Option Addr) : Nat → Prop := fun k => ∃ ad, A = some ad ∧ ad.block = k
class OffB (S : Nat → Prop) (g : Nat) : Prop where
  out : ¬ S g
class OffA (S : Nat → Prop) (A : Option Addr) : Prop where
  out : ∀ ad, A = some ad → ¬ S ad.block
class Above (w : World) (S : Nat → Prop) : Prop where
  out : ∀ k, S k → w.heap.size ≤ k

instance (w : World) : Step nowhere w w.drew := ⟨(Chg.refl _ _).drew⟩
instance (w : World) (n : Nat) : Step nowhere w (w.drewN n) := ⟨(Chg.refl _ _).drewN n⟩
instance (w : World) (o : Obj) : Step nowhere w (w.alloc o) := ⟨(Chg.refl _ _).alloc o⟩
instance (w : World) : Nw w w := ⟨Chg.refl _ _⟩
instance (w : World) : Above w nowhere := ⟨fun _ h => h.elim⟩
instance Above.only_ (w0 w : World) (z : Nat) [b : Born w z] [n : Nw w0 w] : Above w0 (only z) := ⟨fun k h => by
  have h' : k = z := h
  rw [h', b.eq]
  exact n.out.size⟩
instance Above.row_ (w0 w : World) (A : Option Addr) [b : NewA w A] [n : Nw w0 w] : Above w0 (rowOf A) := ⟨fun k ⟨ad, h, e⟩ => by
  rw [← e]
  exact Nat.le_trans n.out.size (b.out ad h)⟩
instance Above.none_ (w0 : World) : Above w0 (rowOf none) := ⟨fun k ⟨ad, h, _⟩ => by cases h⟩
instance Nw.snoc (S : Nat → Prop) (w0 w w' : World) [s : Step S w w'] [n : Nw w0 w] [a : Above w0 S] : Nw w0 w' := ⟨n.out.step s.chg a.out⟩
theorem stepN {w0 w : World} [n : Nw w0 w] : Step nowhere w0 w := ⟨n.out⟩

instance (g : Nat) : OffB nowhere g := ⟨id⟩
instance (A : Option Addr) : OffA nowhere A := ⟨fun _ _ h => h⟩
instance (S : Nat → Prop) : OffA S none := ⟨fun _ h => by cases h⟩
instance OffB.born (w : World) (z g : Nat) (t : TypeId) (cs : Array Value) [b : Born w z] [h : HB w g t cs] : OffB (only z) g := ⟨fun e => by
  have e' : g = z := e
  have := h.out.lt
  rw [e', b.eq] at this
  omega⟩
instance OffB.later (w : World) (z g : Nat) (t : TypeId) (cs : Array Value) [b : Born w g] [h : HB w z t cs] : OffB (only z) g := ⟨fun e => by
  have e' : g = z := e
  have := h.out.lt
  rw [← e', b.eq] at this
  omega⟩
instance OffB.rowNew (w : World) (A : Option Addr) (g : Nat) (t : TypeId) (cs : Array Value) [b : NewA w A] [h : HB w g t cs] : OffB (rowOf A) g := ⟨fun ⟨ad, e, hk⟩ => by
  have h1 := b.out ad e
  have h2 := h.out.lt
  omega⟩
instance OffB.rowOld (w : World) (e : TypeId) (size n c : Nat) (A : Option Addr) (xs : List Value) (g : Nat) [b : Born w g] [h : HO w e size A n c xs] : OffB (rowOf A) g := ⟨fun ⟨ad, e, hk⟩ => by
  have h1 := h.out.lt e
  have h2 := b.eq
  omega⟩
instance OffB.rowNone (g : Nat) : OffB (rowOf none) g := ⟨fun ⟨ad, e, hk⟩ => by cases e⟩
theorem rd_lt {w : World} {A : Option Addr} {vs : List Value} (h : Rd w A vs) (hne : vs ≠ []) {ad : Addr} (e : A = some ad) : ad.block < w.heap.size := by
  obtain ⟨ad', e', hl⟩ := h.lt (List.length_pos_iff.2 hne)
  rw [e] at e'
  injection e' with e'
  subst e'
  exact hl
/-- cells that are read lie apart from S -/
class OffR (S : Nat → Prop) (A : Option Addr) (vs : List Value) : Prop where
  out : Apart S A vs
instance (A : Option Addr) (vs : List Value) : OffR nowhere A vs := ⟨fun _ _ _ h => h⟩
instance OffR.nil (S : Nat → Prop) (A : Option Addr) : OffR S A [] := ⟨fun h => absurd rfl h⟩
instance OffR.none (S : Nat → Prop) (vs : List Value) : OffR S none vs := ⟨fun _ _ h => by cases h⟩
instance OffR.born (w : World) (z : Nat) (A : Option Addr) (vs : List Value) [b : Born w z] [h : HR w A vs] : OffR (only z) A vs := ⟨fun hne ad e hk => by
  have h1 := rd_lt h.out hne e
  have hk' : ad.block = z := hk
  rw [hk', b.eq] at h1
  omega⟩
instance OffR.newA (w : World) (z : Nat) (t : TypeId) (cs : Array Value) (A : Option Addr) (vs : List Value) [b : NewA w A] [h : HB w z t cs] : OffR (only z) A vs := ⟨fun _ ad e hk => by
  have h1 := b.out ad e
  have h2 := h.out.lt
  have hk' : ad.block = z := hk
  omega⟩
instance OffR.rowNew (w : World) (B A : Option Addr) (vs : List Value) [b : NewA w B] [h : HR w A vs] : OffR (rowOf B) A vs := ⟨fun hne ad e ⟨bd, e', hk⟩ => by
  have h1 := rd_lt h.out hne e
  have h2 := b.out bd e'
  omega⟩
instance OffR.rowOld (w : World) (e : TypeId) (size n c : Nat) (B A : Option Addr) (xs vs : List Value) [b : NewA w A] [h : HO w e size B n c xs] : OffR (rowOf B) A vs := ⟨fun hne ad e ⟨bd, e', hk⟩ => by
  have h1 := h.out.lt e'
  have h2 := b.out ad e
  omega⟩
instance OffA.born (w : World) (z : Nat) (e : TypeId) (size n c : Nat) (A : Option Addr) (xs : List Value) [b : Born w z] [h : HO w e size A n c xs] : OffA (only z) A := ⟨fun ad e hk => by
  have h1 := h.out.lt e
  have hk' : ad.block = z := hk
  rw [hk', b.eq] at h1
  omega⟩
instance OffA.newA (w : World) (z : Nat) (t : TypeId) (cs : Array Value) (A : Option Addr) [b : NewA w A] [h : HB w z t cs] : OffA (only z) A := ⟨fun ad e hk => by
  have h1 := b.out ad e
  have h2 := h.out.lt
  have hk' : ad.block = z := hk
  omega⟩
instance OffA.rowNew (w : World) (e : TypeId) (size n c : Nat) (B A : Option Addr) (xs : List Value) [b : NewA w B] [h : HO w e size A n c xs] : OffA (rowOf B) A := ⟨fun ad e ⟨bd, e', hk⟩ => by
  have h1 := h.out.lt e
  have h2 := b.out bd e'
  omega⟩
instance OffA.rowOld (w : World) (e : TypeId) (size n c : Nat) (B A : Option Addr) (xs : List Value) [b : NewA w A] [h : HO w e size B n c xs] : OffA (rowOf B) A := ⟨fun ad e ⟨bd, e', hk⟩ => by
  have h1 := h.out.lt e'
  have h2 := b.out ad e
  omega⟩

instance HB.step (S : Nat → Prop) (w w' : World) (g : Nat) (t : TypeId) (cs : Array Value) [s : Step S w w'] [h : HB w g t cs] [o : OffB S g] : HB w' g t cs := ⟨h.out.chg s.chg o.out⟩
instance HR.step (S : Nat → Prop) (w w' : World) (A : Option Addr) (vs : List Value) [s : Step S w w'] [h : HR w A vs] [o : OffR S A vs] : HR w' A vs := ⟨h.out.chg s.chg o.out⟩
instance HO.step (S : Nat → Prop) (w w' : World) (e : TypeId) (size n c : Nat) (A : Option Addr) (xs : List Value) [s : Step S w w'] [h : HO w e size A n c xs] [o : OffA S A] : HO w' e size A n c xs := ⟨h.out.chg s.chg o.out⟩
instance (priority := 900) HR.ofOwn (w : World) (e : TypeId) (size n c : Nat) (A : Option Addr) (xs : List Value) [h : HO w e size A n c xs] : HR w A xs := ⟨h.out.rd⟩
instance (priority := 900) HR.ofBlk (w : World) (z : Nat) (t : TypeId) (xs : List UInt8) [h : HB w z t (u8s xs)] : HR w (some ⟨z, 0, none⟩) (bs xs) := ⟨rd_u8s h.out⟩
instance HR.nil_ (w : World) : HR w none [] := ⟨Rd.nil _ _⟩
instance HB.new (w : World) (cs : Array Value) (t : TypeId) : HB (w.alloc (.cells cs t)) w.heap.size t cs := ⟨Blk.new w t cs⟩
theorem NewA.of_none (w : World) : NewA w none := ⟨fun _ h => by cases h⟩
theorem NewA.of_born {w : World} {z : Nat} [b : Born w z] (k : Nat) : NewA w (some ⟨z, k, none⟩) := ⟨fun ad h => by
  injection h with h
  subst h
  exact Nat.le_of_eq b.eq.symm⟩
theorem NewA.mono {w0 w : World} {A : Option Addr} (h : NewA w A) [n : Nw w0 w] : NewA w0 A := ⟨fun ad e => Nat.le_trans n.out.size (h.out ad e)⟩
theorem NewA.grown {w0 w : World} {A A' : Option Addr} [h : NewA w0 A] [n : Nw w0 w] (k : A' = A ∨ A' = some ⟨w.heap.size, 0, none⟩) : NewA w0 A' := ⟨fun ad e => by
  rcases k with k | k
  · exact h.out ad (k.symm.trans e)
  · rw [k] at e
    injection e with e
    subst e
    exact n.out.size⟩

theorem HB.eq {w : World} {g : Nat} {t : TypeId} {xs ys : List UInt8} (h : HB w g t (u8s xs)) (e : xs = ys) : HB w g t (u8s ys) := e ▸ h
/-- what a new variable of a type holds -/
class ZeroT (P : Program) (t : TypeId) (cs : outParam (Array Value)) : Prop where
  out : ∃ v, (∀ w, (zeroValue t).run P w = .ok v w) ∧ v.cells = cs
/-- how many cells a type takes, and whether it is an array or a struct -/
class RowT (P : Program) (t : TypeId) (n : outParam Nat) : Prop where
  size : (P.info? t).map (·.size) = some n
  row : ∃ d, P.underlying t = some d ∧ (match d with | .struct _ | .array _ _ => true | _ => false) = true

def b8 (n : Int) : UInt8 := UInt8.ofNat (n % 256).toNat
theorem mod_b8 (n : Int) : n % 256 = ((b8 n).toNat : Int) := by
  unfold b8
  rw [UInt8.toNat_ofNat']
  omega
theorem wrap_b8 (n : Int) : IntKind.u8.wrap n = ((b8 n).toNat : Int) := by
  rw [IntKind.wrap_u8]
  unfold b8
  rw [UInt8.toNat_ofNat']
  omega
theorem b8_self (b : UInt8) : b8 (b.toNat : Int) = b := by
  have h := b.toNat_lt
  apply UInt8.toNat_inj.1
  unfold b8
  rw [UInt8.toNat_ofNat']
  omega
theorem b8_mod (n : Int) : b8 (n % 256) = b8 n := by
  unfold b8
  rw [Int.emod_emod_of_dvd _ (by decide)]
theorem b8_in {n : Int} (h0 : 0 ≤ n) (h1 : n < 256) : n = ((b8 n).toNat : Int) := by
  rw [← mod_b8]
  omega
def iget (l : List Int) (k : Nat) : Int := l.getD k 0
def bget (l : List UInt8) (k : Nat) : UInt8 := l.getD k 0
theorem iget_set (l : List Int) (k : Nat) (n : Int) (h : k < l.length) : iget (l.set k n) k = n := by simp [iget, List.getD_eq_getElem?_getD, h]
theorem iget_set_ne (l : List Int) (k j : Nat) (n : Int) (h : k ≠ j) : iget (l.set k n) j = iget l j := by simp [iget, List.getD_eq_getElem?_getD, h]
theorem wrap_eq64 (n : Int) : IntKind.i64.wrap n = wrap64 n := by
  rw [IntKind.wrap_i64]
  first | rfl | (unfold wrap64; omega)
/-- numbers as cells -/
def i64s (l : List Int) : Array Value := (l.map fun x => Value.int .i64 x).toArray
theorem i64s_get (l : List Int) (k : Nat) (hk : k < l.length) : (i64s l)[k]? = some (.int .i64 (l.getD k 0)) := by
  simp [i64s, List.getD_eq_getElem?_getD, List.getElem?_eq_getElem hk]
theorem i64s_size (l : List Int) : (i64s l).size = l.length := by simp [i64s]
theorem i64s_one (l : List Int) : (i64s l).all (·.oneCell') = true := by
  rw [Array.all_eq_true_iff_forall_mem]
  intro x hx
  simp [i64s] at hx
  obtain ⟨y, _, rfl⟩ := hx
  rfl
theorem i64s_set (l : List Int) (k : Nat) (n : Int) : (i64s l).setIfInBounds k (.int .i64 n) = i64s (l.set k n) := by
  apply Array.ext'
  simp [i64s, List.map_set]
/-- a type of one cell -/
class CellT (P : Program) (t : TypeId) : Prop where
  agg : ∀ w, (isAgg t).run P w = .ok false w
  size1 : ∀ w, (sizeOf t).run P w = .ok 1 w
section
variable {P : Program} {ops : Array Oper} {rest : List Oper} {a : Act} {w : World} {Q : Exit → Act → World → Prop} {dst : Option Tmp} {ty : TypeId} {pos : String} {after : Array Edge}
/-- a halt on the way, for looking about -/
def Stop (p : Prop) : Prop := p
theorem stop_store {t : TypeId} {x y : Operand} (h : Stop (wpList P ops Q (⟨dst, .store t x y, ty, pos, after, none⟩ :: rest) a w)) : wpList P ops Q (⟨dst, .store t x y, ty, pos, after, none⟩ :: rest) a w := h
theorem stop_any {o : Oper} (h : Stop (wpList P ops Q (o :: rest) a w)) : wpList P ops Q (o :: rest) a w := h
theorem stop_call {c : Call} (h : Stop (wpList P ops Q (⟨dst, .call c, ty, pos, after, none⟩ :: rest) a w)) : wpList P ops Q (⟨dst, .call c, ty, pos, after, none⟩ :: rest) a w := h
theorem wpl_guard {op : Op} {g : Nat × Bool} (hw : Region.wanted ⟨dst, op, ty, pos, after, some g⟩ (yielded ops a.tmps) = true) (h : wpList P ops Q (⟨dst, op, ty, pos, after, none⟩ :: rest) a w) : wpList P ops Q (⟨dst, op, ty, pos, after, some g⟩ :: rest) a w := by
  unfold wpList at h ⊢
  rw [if_pos (by simp [Region.wanted])] at h
  rw [if_pos hw]
  exact h
theorem wpl_alloc {t : TypeId} {cs : Array Value} [z : ZeroT P t cs]
    (h : ∀ g w', Born w g → Step nowhere w w' → HB w' g t cs → wpList P ops Q rest (a.put dst (.pointer (some ⟨g, 0, none⟩))) w') :
    wpList P ops Q (⟨dst, .alloc t, ty, pos, after, none⟩ :: rest) a w :=
  wpList_plain rfl fun K hK => by
    obtain ⟨v, hv, hc⟩ := z.out
    unfold Oper.wp execOp
    simp only [Instr.alloc, newVar, newRow, newObj, go_sem, Sem.run_bind, Sem.run_pure, Result.andThen_ok, hv]
    rw [← hc] at h
    refine hK _ _ (h w.heap.size (w.alloc (.cells v.cells t)) ⟨rfl⟩ inferInstance ⟨Blk.new w t _⟩)
theorem wpl_of_run {o : Oper} (hg : o.guard = none) {v : Value} {w' : World} (hrun : (execOp a.eval o).run P w = .ok (.value v) w') (h : wpList P ops Q rest (a.put o.dst v) w') : wpList P ops Q (o :: rest) a w :=
  wpList_plain hg fun K hK => by
    unfold Oper.wp
    rw [hrun]
    exact hK _ _ h
theorem wpl_of_unit {o : Oper} (hg : o.guard = none) {w' : World} (hrun : (execOp a.eval o).run P w = .ok .skip w') (h : wpList P ops Q rest (a.put o.dst undef) w') : wpList P ops Q (o :: rest) a w :=
  wpList_plain hg fun K hK => by
    unfold Oper.wp
    rw [hrun]
    exact hK _ _ h
theorem run_boxed (w : World) (t : TypeId) (v : Value) : (Instr.box t v).run P w = .ok (.pointer (some ⟨w.heap.size, 0, none⟩)) (w.alloc (.cells v.cells t)) := rfl
theorem wpl_box {t : TypeId} {x : Operand} {v : Value} (hx : a.eval x = v) {cs : Array Value} (hc : v.cells = cs)
    (h : ∀ g w', Born w g → Step nowhere w w' → HB w' g t cs → wpList P ops Q rest (a.put dst (.pointer (some ⟨g, 0, none⟩))) w') :
    wpList P ops Q (⟨dst, .box t x, ty, pos, after, none⟩ :: rest) a w := by
  subst hx hc
  exact wpl_of_run rfl (v := .pointer (some ⟨w.heap.size, 0, none⟩)) (w' := w.alloc (.cells (a.eval x).cells t)) rfl (h w.heap.size _ ⟨rfl⟩ inferInstance ⟨Blk.new w t _⟩)
theorem wpl_box_agg {t : TypeId} {x : Operand} {cs : Array Value} (hx : a.eval x = .agg cs)
    (h : ∀ g w', Born w g → Step nowhere w w' → HB w' g t cs → wpList P ops Q rest (a.put dst (.pointer (some ⟨g, 0, none⟩))) w') :
    wpList P ops Q (⟨dst, .box t x, ty, pos, after, none⟩ :: rest) a w := wpl_box hx rfl h
theorem wpl_box_int {t : TypeId} {x : Operand} {ik : IntKind} {n : Int} (hx : a.eval x = .int ik n)
    (h : ∀ g w', Born w g → Step nowhere w w' → HB w' g t #[.int ik n] → wpList P ops Q rest (a.put dst (.pointer (some ⟨g, 0, none⟩))) w') :
    wpList P ops Q (⟨dst, .box t x, ty, pos, after, none⟩ :: rest) a w := wpl_box hx rfl h
theorem wpl_box_slice {t : TypeId} {x : Operand} {A : Option Addr} {n c : Nat} (hx : a.eval x = .slice A n c)
    (h : ∀ g w', Born w g → Step nowhere w w' → HB w' g t #[.slice A n c] → wpList P ops Q rest (a.put dst (.pointer (some ⟨g, 0, none⟩))) w') :
    wpList P ops Q (⟨dst, .box t x, ty, pos, after, none⟩ :: rest) a w := wpl_box hx rfl h
theorem wpl_box_str {t : TypeId} {x : Operand} {b : ByteArray} (hx : a.eval x = .string b)
    (h : ∀ g w', Born w g → Step nowhere w w' → HB w' g t #[.string b] → wpList P ops Q rest (a.put dst (.pointer (some ⟨g, 0, none⟩))) w') :
    wpList P ops Q (⟨dst, .box t x, ty, pos, after, none⟩ :: rest) a w := wpl_box hx rfl h
theorem wpl_box_bool {t : TypeId} {x : Operand} {b : Bool} (hx : a.eval x = .bool b)
    (h : ∀ g w', Born w g → Step nowhere w w' → HB w' g t #[.bool b] → wpList P ops Q rest (a.put dst (.pointer (some ⟨g, 0, none⟩))) w') :
    wpList P ops Q (⟨dst, .box t x, ty, pos, after, none⟩ :: rest) a w := wpl_box hx rfl h
theorem wpl_box_ptr {t : TypeId} {x : Operand} {p : Option Addr} (hx : a.eval x = .pointer p)
    (h : ∀ g w', Born w g → Step nowhere w w' → HB w' g t #[.pointer p] → wpList P ops Q rest (a.put dst (.pointer (some ⟨g, 0, none⟩))) w') :
    wpList P ops Q (⟨dst, .box t x, ty, pos, after, none⟩ :: rest) a w := wpl_box hx rfl h
theorem wpl_build {t : TypeId} {ps : List (Nat × Operand)} {cs : Array Value} (hr : (Instr.build t (ps.map fun (i, x) => (i, a.eval x)).toArray).run P w = .ok (.agg cs) w)
    (h : wpList P ops Q rest (a.put dst (.agg cs)) w) : wpList P ops Q (⟨dst, .build t ps.toArray, ty, pos, after, none⟩ :: rest) a w :=
  wpl_of_run rfl (by
    show ((Instr.build t (ps.toArray.map fun (i, x) => (i, a.eval x))) >>= fun v => pure (Next.value v)).run P w = _
    rw [Sem.run_bind, List.map_toArray, hr]
    rfl) h
theorem wpl_max {x y : Operand} {tx ty' : TypeId} {k : IntKind} {p q : Int} (hx : a.eval x = .int k p) (hy : a.eval y = .int k q) (h : wpList P ops Q rest (a.put dst (.int k (max p q))) w) :
    wpList P ops Q (⟨dst, .call { callee := .builtin .max, args := #[x, y], argTypes := #[tx, ty'] }, ty, pos, after, none⟩ :: rest) a w :=
  wpl_of_run rfl (by
    have e : (if q > p then q else p) = max p q := by omega
    simp only [execOp, resolve, invoke, builtin, Sem.run_bind, Sem.run_pure, Result.andThen_ok, List.map_toArray, List.map_cons, List.map_nil, hx, hy, run_max_int2, e]) h
theorem wpl_min {x y : Operand} {tx ty' : TypeId} {k : IntKind} {p q : Int} (hx : a.eval x = .int k p) (hy : a.eval y = .int k q) (h : wpList P ops Q rest (a.put dst (.int k (min p q))) w) :
    wpList P ops Q (⟨dst, .call { callee := .builtin .min, args := #[x, y], argTypes := #[tx, ty'] }, ty, pos, after, none⟩ :: rest) a w :=
  wpl_of_run rfl (by
    have e : (if q < p then q else p) = min p q := by omega
    simp only [execOp, resolve, invoke, builtin, Sem.run_bind, Sem.run_pure, Result.andThen_ok, List.map_toArray, List.map_cons, List.map_nil, hx, hy, run_min_int2, e]) h
/-- a whole array or struct read out of its block -/
theorem wpl_loadrow {t : TypeId} {x : Operand} {g : Nat} (hx : a.eval x = .pointer (some ⟨g, 0, none⟩)) {tb : TypeId} {cs : Array Value} (hb : HB w g tb cs) {n : Nat} (hr : RowT P t n) (hn : cs.size = n)
    (h : wpList P ops Q rest (a.put dst (.agg cs)) w) : wpList P ops Q (⟨dst, .load t x, ty, pos, after, none⟩ :: rest) a w := by
  obtain ⟨d, hd1, hd2⟩ := hr.row
  exact wpList_load_row rfl t x rfl g hx tb cs (0, 0) d hb.out hd1 (by cases d <;> first | rfl | cases hd2) (by rw [hn]; exact hr.size) h
/-- one written into its block -/
theorem wpl_storerow {t : TypeId} {x y : Operand} {g : Nat} {cs : Array Value} (hx : a.eval x = .pointer (some ⟨g, 0, none⟩)) (hy : a.eval y = .agg cs) {tb : TypeId} {old : Array Value} (hb : HB w g tb old) {n : Nat} (hr : RowT P t n)
    (hn : cs.size = n) (ho : old.size = n) (h1 : cs.all (·.oneCell') = true)
    (h : ∀ w', Step (only g) w w' → HB w' g tb cs → wpList P ops Q rest (a.put dst undef) w') : wpList P ops Q (⟨dst, .store t x y, ty, pos, after, none⟩ :: rest) a w :=
  wpList_store_row rfl t x y rfl g cs hx hy tb old hb.out (by rw [hn]; exact hr.size) (by rw [ho, hn]) h1
    (h _ ⟨Chg.setRow (S := only g) (Chg.refl _ _) (fun _ => rfl) _⟩ ⟨hb.out.row_ _⟩)
/-- one cell read -/
theorem wpl_loadcell {t : TypeId} {x : Operand} {g k : Nat} (hx : a.eval x = .pointer (some ⟨g, k, none⟩)) {tb : TypeId} {cs : Array Value} (hb : HB w g tb cs) [ht : CellT P t] {v : Value} (hv : cs[k]? = some v)
    (h : wpList P ops Q rest (a.put dst v) w) : wpList P ops Q (⟨dst, .load t x, ty, pos, after, none⟩ :: rest) a w :=
  wpl_of_run rfl (by
    have hc : w.cell? ⟨g, k, none⟩ = some v := (hb.out.cell k).trans hv
    show ((Instr.loadAt t (a.eval x)) >>= fun v => pure (Next.value v)).run P w = _
    rw [hx]
    simp [Instr.loadAt, Instr.sureAddr, loadVar, ht.agg w, hc]) h
theorem wpl_loadat {t : TypeId} {x : Operand} {ad : Addr} (hx : a.eval x = .pointer (some ad)) [ht : CellT P t] {v : Value} (hv : w.cell? ad = some v)
    (h : wpList P ops Q rest (a.put dst v) w) : wpList P ops Q (⟨dst, .load t x, ty, pos, after, none⟩ :: rest) a w :=
  wpl_of_run rfl (by
    show ((Instr.loadAt t (a.eval x)) >>= fun v => pure (Next.value v)).run P w = _
    rw [hx]
    simp [Instr.loadAt, Instr.sureAddr, loadVar, ht.agg w, hv]) h
/-- one cell written -/
theorem wpl_storecell {t : TypeId} {x y : Operand} {g k : Nat} {v : Value} (hx : a.eval x = .pointer (some ⟨g, k, none⟩)) (hy : a.eval y = v) {tb : TypeId} {cs : Array Value} (hb : HB w g tb cs) [ht : CellT P t] (h1 : v.oneCell' = true) (hk : k < cs.size)
    (h : ∀ w', Step (only g) w w' → HB w' g tb (cs.setIfInBounds k v) → wpList P ops Q rest (a.put dst undef) w') : wpList P ops Q (⟨dst, .store t x y, ty, pos, after, none⟩ :: rest) a w :=
  wpl_of_unit rfl (w' := w.setCell ⟨g, k, none⟩ v) (by
    have hc : w.cell? ⟨g, k, none⟩ = some cs[k] := (hb.out.cell k).trans (by simp [hk])
    have hf := hb.out.frozen k
    have hcs : v.cells = #[v] := by cases v <;> simp_all [Value.oneCell', Value.cells]
    have hst := run_store P w ⟨g, k, none⟩ v .plain h1
    rw [hc, hf] at hst
    show ((Instr.storeAt t (a.eval x) (a.eval y)) >>= fun _ => pure Next.skip).run P w = _
    rw [hx, hy]
    simp [Instr.storeAt, Instr.sureAddr, storeVar, hcs, ht.size1 w, storeCells, add_zero_spot, hst])
    (h _ ⟨Chg.setCell (S := only g) (Chg.refl _ _) (p := ⟨g, k, none⟩) (fun _ => rfl) _⟩ ⟨hb.out.set_ k v⟩)
/-- a byte of a row of bytes -/
theorem wpl_storebyte {t : TypeId} {x y : Operand} {g k : Nat} {n : Int} (hx : a.eval x = .pointer (some ⟨g, k, none⟩)) (hy : a.eval y = .int .u8 n) {tb : TypeId} {xs : List UInt8} (hb : HB w g tb (u8s xs)) [ht : CellT P t] (hk : k < xs.length) (hn : 0 ≤ n ∧ n < 256)
    (h : ∀ w', Step (only g) w w' → HB w' g tb (u8s (xs.set k (b8 n))) → wpList P ops Q rest (a.put dst undef) w') : wpList P ops Q (⟨dst, .store t x y, ty, pos, after, none⟩ :: rest) a w :=
  wpl_storecell hx hy hb rfl (by rw [u8s_size]; exact hk) (fun w' s hb' => h w' s (by rw [← u8s_set, ← b8_in hn.1 hn.2]; exact hb'))
theorem wpl_loadint {t : TypeId} {x : Operand} {g k : Nat} (hx : a.eval x = .pointer (some ⟨g, k, none⟩)) {tb : TypeId} {l : List Int} (hb : HB w g tb (i64s l)) (ht : CellT P t) (hk : k < l.length)
    (h : wpList P ops Q rest (a.put dst (.int .i64 (iget l k))) w) : wpList P ops Q (⟨dst, .load t x, ty, pos, after, none⟩ :: rest) a w := wpl_loadcell hx hb (i64s_get l k hk) h
theorem wpl_loadbyte {t : TypeId} {x : Operand} {g k : Nat} (hx : a.eval x = .pointer (some ⟨g, k, none⟩)) {tb : TypeId} {l : List UInt8} (hb : HB w g tb (u8s l)) (ht : CellT P t) (hk : k < l.length)
    (h : wpList P ops Q rest (a.put dst (.int .u8 ((bget l k).toNat : Int))) w) : wpList P ops Q (⟨dst, .load t x, ty, pos, after, none⟩ :: rest) a w := wpl_loadcell hx hb (u8s_get l k hk) h
theorem wpl_storeint {t : TypeId} {x y : Operand} {g k : Nat} {n : Int} (hx : a.eval x = .pointer (some ⟨g, k, none⟩)) (hy : a.eval y = .int .i64 n) {tb : TypeId} {l : List Int} (hb : HB w g tb (i64s l)) [ht : CellT P t] (hk : k < l.length)
    (h : ∀ w', Step (only g) w w' → HB w' g tb (i64s (l.set k n)) → wpList P ops Q rest (a.put dst undef) w') : wpList P ops Q (⟨dst, .store t x y, ty, pos, after, none⟩ :: rest) a w :=
  wpl_storecell hx hy hb rfl (by rw [i64s_size]; exact hk) (fun w' s hb' => h w' s (by rw [← i64s_set]; exact hb'))
/-- bytes copied into a row of bytes -/
theorem wpl_copy {d s : Operand} {dT sT elem : TypeId} (hu : P.underlying dT = some (.slice elem)) (hsz : (P.info? elem).map (·.size) = some 1)
    {g off dLen dCap : Nat} {sp : Option Addr} {sLen sCap : Nat} (hd : a.eval d = .slice (some ⟨g, off, none⟩) dLen dCap) (hs : a.eval s = .slice sp sLen sCap)
    {cur : List UInt8} {t : TypeId} (hb : HB w g t (u8s cur)) {xs : List UInt8} (hr : HR w sp (bs xs)) (hxl : xs.length = sLen) (hle : sLen ≤ dLen) (hfit : off + sLen ≤ cur.length)
    (h : ∀ w', Step (only g) w w' → HB w' g t (u8s (cur.take off ++ xs ++ cur.drop (off + sLen))) → wpList P ops Q rest (a.put dst (.int .i64 sLen)) w') :
    wpList P ops Q (⟨dst, .call { callee := .builtin .copy, args := #[d, s], argTypes := #[dT, sT] }, ty, pos, after, none⟩ :: rest) a w :=
  wpList_copyB rfl d s dT sT rfl elem hu hsz hd hs hb.out hr.out hxl hle hfit fun w' h1 h2 => h w' ⟨h2⟩ ⟨h1⟩
/-- bytes behind a row of bytes of the call's own -/
theorem wpl_append {s x : Operand} {t e : TypeId} {size bytes : Nat} {z : Value} (E : Elem P t e size bytes z) {A : Option Addr} {n c : Nat} {xs : List Value} (hs : a.eval s = .slice A n c) {A2 : Option Addr} {m c2 : Nat} (hx : a.eval x = .slice A2 m c2) (ho : HO w e size A n c xs) {w0 : World} (hA : NewA w0 A) (hw : Nw w0 w)
    {news : List Value} (hr : HR w A2 news) (hl : news.length = m * size) (h1 : ∀ u ∈ news, u.oneCell' = true) (h63 : n + m ≤ maxLen) (hbytes : (n + m) * bytes ≤ 140737488355328) (hnil : A2 = none → m = 0)
    (h : ∀ A' c' w', Step (rowOf A) w w' → HO w' e size A' (n + m) c' (xs ++ news) → NewA w0 A' → wpList P ops Q rest (a.put dst (.slice A' (n + m) c')) w') :
    wpList P ops Q (⟨dst, .call { callee := .builtin .append, args := #[s, x], argTypes := #[t, t] }, ty, pos, after, none⟩ :: rest) a w :=
  wpList_append_Own rfl s x E rfl hs ho.out hx hr.out hl h1 h63 hbytes hnil fun A' c' w' g1 g2 g3 => h A' c' w' ⟨g2⟩ ⟨g1⟩ (NewA.grown (w := w) g3)
end
section
variable {P : Program} {fn : Func} {R : Ending → World → Prop} {a : Act} {w : World}
theorem ret_row {p : Tmp} {ty : TypeId} (h : fn.results = #[.cell p ty]) {g : Nat} (hp : a.tmps.getD p undef = .pointer (some ⟨g, 0, none⟩)) {tb : TypeId} {cs : Array Value} [hb : HB w g tb cs] {n : Nat} [hr : RowT P ty n] (hn : cs.size = n) (hd : a.defers = []) (hR : R (.returned (.agg cs)) w) : bodyPost P fn R .ret a w := by
  obtain ⟨d, hd1, hd2⟩ := hr.row
  exact bodyPost_ret (results_cell_row h a.tmps w g tb cs (0, 0) d hp hb.out hd1 (by cases d <;> first | rfl | cases hd2) (by rw [hn]; exact hr.size)) hd hR
theorem ret_row_ {p u : Tmp} {ty : TypeId} (h : fn.results = #[.cell p ty, .tmp u]) {g : Nat} (hp : a.tmps.getD p undef = .pointer (some ⟨g, 0, none⟩)) {v : Value} (hv : a.tmps.getD u undef = v) {tb : TypeId} {cs : Array Value} [hb : HB w g tb cs] {n : Nat} [hr : RowT P ty n] (hn : cs.size = n) (hd : a.defers = []) (hR : R (.returned (.tuple #[.agg cs, v])) w) : bodyPost P fn R .ret a w := by
  obtain ⟨d, hd1, hd2⟩ := hr.row
  refine bodyPost_ret ?_ hd hR
  rw [results_cell_tmp h, hp, hv]
  simp [asAddr, run_loadVar_row (P := P) w g tb ty cs (0, 0) d hb.out hd1 (by cases d <;> first | rfl | cases hd2) (by rw [hn]; exact hr.size)]
theorem ret_row2 {p u : Tmp} {ty : TypeId} (h : fn.results = #[.cell p ty, .tmp u]) {g : Nat} (hp : a.tmps.getD p undef = .pointer (some ⟨g, 0, none⟩)) {b : Bool} {tb : TypeId} {cs : Array Value} [hb : HB w g tb cs] {n : Nat} [hr : RowT P ty n] (hn : cs.size = n) (hd : a.defers = []) (hR : R (.returned (.tuple #[.agg cs, .bool b])) w) (hv : a.tmps.getD u undef = .bool b := by rfl) : bodyPost P fn R .ret a w :=
  ret_row_ h hp hv hn hd hR
end
/-- a digest -/
structure H32 where
  l : List UInt8
  len : l.length = 32
@[simp] theorem H32.len_ (h : H32) : h.l.length = 32 := h.len
theorem H32.size (h : H32) : (u8s h.l).size = 32 := by rw [u8s_size, h.len]
theorem H32.ext' {a b : H32} (h : a.l = b.l) : a = b := by cases a; cases b; cases h; rfl
end Go.Proofs.YthoipeamdolfgaaDoor
