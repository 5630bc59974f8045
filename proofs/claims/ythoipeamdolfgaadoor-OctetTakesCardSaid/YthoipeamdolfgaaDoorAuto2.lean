/- Rows of many cells an element: reading, writing, appending. -/
import Derived.Test.YthoipeamdolfgaaDoorAuto
open Go Go.RowKit
namespace Go.Proofs.YthoipeamdolfgaaDoor
/-- a type of Go's whose values take so many cells -/
class RowC (α : Type) where
  size : Nat
  enc : α → List Value
  len : ∀ a, (enc a).length = size
  one : ∀ a, ∀ u ∈ enc a, u.oneCell' = true
  zero : α
def cellsOf {α : Type} [RowC α] (l : List α) : List Value := l.flatMap RowC.enc
section
variable {α : Type} [RowC α]
theorem cellsOf_len (l : List α) : (cellsOf l).length = l.length * RowC.size α := by
  induction l with
  | nil => simp [cellsOf]
  | cons a l ih =>
    have e : cellsOf (a :: l) = RowC.enc a ++ cellsOf l := rfl
    rw [e, List.length_append, ih, RowC.len, List.length_cons, Nat.succ_mul, Nat.add_comm]
theorem cellsOf_app (l m : List α) : cellsOf (l ++ m) = cellsOf l ++ cellsOf m := by simp [cellsOf]
theorem cellsOf_nil : cellsOf ([] : List α) = [] := rfl
theorem cellsOf_snoc (l : List α) (x : α) : cellsOf (l ++ [x]) = cellsOf l ++ RowC.enc x := by simp [cellsOf]
theorem cellsOf_one (l : List α) : ∀ u ∈ cellsOf l, u.oneCell' = true := by
  intro u hu
  obtain ⟨a, _, h⟩ := List.mem_flatMap.1 hu
  exact RowC.one a u h
theorem cellsOf_at (l : List α) (i : Nat) (hi : i < l.length) : ((cellsOf l).drop (i * RowC.size α)).take (RowC.size α) = RowC.enc (l.getD i RowC.zero) := by
  induction l generalizing i with
  | nil => simp at hi
  | cons a l ih =>
    have e : cellsOf (a :: l) = RowC.enc a ++ cellsOf l := rfl
    rw [e]
    cases i with
    | zero => rw [Nat.zero_mul, List.drop_zero, List.take_left' (RowC.len a)]; rfl
    | succ i =>
      have h2 : (i + 1) * RowC.size α = (RowC.enc a).length + i * RowC.size α := by rw [RowC.len, Nat.succ_mul, Nat.add_comm]
      rw [h2, ← List.drop_drop, List.drop_left, ih i (by simpa using hi)]
      simp
theorem cellsOf_take (l : List α) (k : Nat) : (cellsOf l).take (k * RowC.size α) = cellsOf (l.take k) := by
  rcases Nat.lt_or_ge k l.length with h | h
  · conv => lhs; rw [← List.take_append_drop k l, cellsOf_app]
    rw [List.take_left' (by rw [cellsOf_len, List.length_take]; congr 1; omega)]
  · rw [List.take_of_length_le h, List.take_of_length_le (by rw [cellsOf_len]; exact Nat.mul_le_mul_right _ h)]
theorem cellsOf_drop (l : List α) (k : Nat) : (cellsOf l).drop (k * RowC.size α) = cellsOf (l.drop k) := by
  rcases Nat.lt_or_ge k l.length with h | h
  · conv => lhs; rw [← List.take_append_drop k l, cellsOf_app]
    rw [List.drop_left' (by rw [cellsOf_len, List.length_take]; congr 1; omega)]
  · rw [List.drop_of_length_le h, List.drop_of_length_le (by rw [cellsOf_len]; exact Nat.mul_le_mul_right _ h)]
    rfl
theorem cellsOf_set (l : List α) (i : Nat) (x : α) (hi : i < l.length) : (cellsOf l).take (i * RowC.size α) ++ RowC.enc x ++ (cellsOf l).drop (i * RowC.size α + RowC.size α) = cellsOf (l.set i x) := by
  have h2 : i * RowC.size α + RowC.size α = (i + 1) * RowC.size α := by rw [Nat.succ_mul]
  rw [h2, cellsOf_take, cellsOf_drop, List.set_eq_take_append_cons_drop, if_pos hi]
  simp [cellsOf]
end
instance : RowC H32 := ⟨32, fun h => bs h.l, fun h => by rw [bs_length, h.len], fun h => bs_one h.l, ⟨List.replicate 32 0, rfl⟩⟩
def zeroH : H32 := ⟨List.replicate 32 0, rfl⟩
def hget (l : List H32) (i : Nat) : H32 := l.getD i zeroH

instance HR.nilB (w : World) : HR w none (bs []) := ⟨Rd.nil _ _⟩
instance HR.nilH (w : World) : HR w none (cellsOf ([] : List H32)) := ⟨Rd.nil _ _⟩
/-- an address inside a row, which may be none -/
def shift (A : Option Addr) (k : Nat) : Option Addr := A.map (·.add k)
def ptrOf (A : Option Addr) (k : Nat) : Value := .pointer (shift A k)
theorem shift_some (ad : Addr) (k : Nat) : shift (some ad) k = some (ad.add k) := rfl
theorem shift_shift (A : Option Addr) (j k : Nat) : shift (shift A j) k = shift A (j + k) := by
  cases A with
  | none => rfl
  | some ad => simp [shift, add_of_add]
instance HR.cut (w : World) (A : Option Addr) (l : List H32) (i : Nat) [h : HR w A (cellsOf l)] [hi : Fact' (i < l.length)] : HR w (shift A (i * 32)) (bs (hget l i).l) := ⟨by
  have h1 := (h.out.drop (i * 32)).take 32
  rw [show ((cellsOf l).drop (i * 32)).take 32 = bs (hget l i).l from cellsOf_at l i hi.out] at h1
  exact h1⟩
/-- what the table says of a slice's elements -/
class ElemT (P : Program) (t : TypeId) (e : outParam TypeId) (size bytes : outParam Nat) (z : outParam Value) : Prop where
  out : Elem P t e size bytes z
/-- a row that an append has left: where it was, or new -/
class Grew (w : outParam World) (A : outParam (Option Addr)) (A' : Option Addr) : Prop where
  out : A' = A ∨ A' = some ⟨w.heap.size, 0, none⟩
instance NewA.grew (w0 w : World) (A A' : Option Addr) [g : Grew w A A'] [h : NewA w0 A] [n : Nw w0 w] : NewA w0 A' := NewA.grown (w := w) g.out
instance (priority := 1100) NewA.grew0 (w : World) (A' : Option Addr) [g : Grew w none A'] : NewA w A' := ⟨fun ad e => by
  rcases g.out with k | k
  · rw [k] at e; cases e
  · rw [k] at e
    injection e with e
    subst e
    exact Nat.le_refl _⟩
instance NewA.born_ (w : World) (z k : Nat) [b : Born w z] : NewA w (some ⟨z, k, none⟩) := NewA.of_born k
instance OffB.grew (w : World) (A A' : Option Addr) (g : Nat) (t : TypeId) (cs : Array Value) [k : Grew w A A'] [h : HB w g t cs] [o : OffB (rowOf A) g] : OffB (rowOf A') g := ⟨fun ⟨ad, e, hk⟩ => by
  rcases k.out with k | k
  · exact o.out ⟨ad, k.symm.trans e, hk⟩
  · rw [k] at e
    injection e with e
    subst e
    have h1 := h.out.lt
    have h2 : w.heap.size = g := hk
    omega⟩
instance OffB.rowOnly (z k g : Nat) [o : OffB (only z) g] : OffB (rowOf (some ⟨z, k, none⟩)) g := ⟨fun ⟨ad, e, hk⟩ => by
  injection e with e
  subst e
  exact o.out hk.symm⟩
instance OffA.grew (w : World) (A A' B : Option Addr) (e : TypeId) (size n c : Nat) (xs : List Value) [k : Grew w A A'] [h : HO w e size B n c xs] [o : OffA (rowOf A) B] : OffA (rowOf A') B := ⟨fun bd eb ⟨ad, e, hk⟩ => by
  rcases k.out with k | k
  · exact o.out bd eb ⟨ad, k.symm.trans e, hk⟩
  · rw [k] at e
    injection e with e
    subst e
    have h1 := h.out.lt eb
    have h2 : w.heap.size = bd.block := hk
    omega⟩
instance Born.here (w : World) : Born w w.heap.size := ⟨rfl⟩
instance (priority := 800) HO.ofBytes (w : World) (g : Nat) (e : TypeId) (xs : List UInt8) [h : HB w g e (u8s xs)] [m : Fact' (xs.length ≤ maxLen)] : HO w e 1 (some ⟨g, 0, none⟩) xs.length xs.length (bs xs) :=
  ⟨Own.of_blk h.out (Nat.le_refl _) m.out (by rw [u8s_size, Nat.mul_one]) (by rw [Nat.mul_one]; show (bs xs).take xs.length = bs xs; rw [← bs_length, List.take_length])⟩
section
variable {P : Program} {ops : Array Oper} {rest : List Oper} {a : Act} {w : World} {Q : Exit → Act → World → Prop} {dst : Option Tmp} {ty : TypeId} {pos : String} {after : Array Edge}
/-- the address of an element -/
theorem wpl_index {t : TypeId} {x ix : Operand} {A : Option Addr} {n c : Nat} {i : Int} (hx : a.eval x = .slice A n c) (hi : a.eval ix = .int .i64 i) {e : TypeId} {size bytes : Nat} {z : Value} (E : ElemT P t e size bytes z) (h0 : 0 ≤ i) (h1 : i < n)
    {vs : List Value} (hr : HR w A vs) (hl : 0 < vs.length)
    (h : wpList P ops Q rest (a.put dst (ptrOf A (i.toNat * size))) w) : wpList P ops Q (⟨dst, .indexAddr t x ix, ty, pos, after, none⟩ :: rest) a w :=
  wpl_of_run rfl (by
    obtain ⟨ad, hA, _⟩ := hr.out.lt hl
    obtain ⟨ti, hti, hz, hs, hb⟩ := info_parts E.out.info
    show ((Instr.indexAt t (a.eval x) (a.eval ix)) >>= fun v => pure (Next.value v)).run P w = _
    rw [hx, hi, hA]
    simp [Instr.indexAt, asIntOf, run_underlying E.out.under, sizeOf, typeInfo, hti, hs, h0, h1, ptrOf, shift]) h
theorem run_loadshift {t : TypeId} {A : Option Addr} {k : Nat} {vs cs : List Value} (hr : Rd w A vs) {n : Nat} (ht : RowT P t n) (hn : cs.length = n) (hc : (vs.drop k).take n = cs) (hp : 0 < n) :
    (Instr.loadAt t (ptrOf A k)).run P w = .ok (.agg cs.toArray) w := by
  have hlen : k < vs.length := by
    have := congrArg List.length hc
    rw [List.length_take, List.length_drop, hn] at this
    omega
  obtain ⟨ad, rfl, _⟩ := hr.lt (by omega)
  obtain ⟨d, hd1, hd2⟩ := ht.row
  have hl : (loadCells (ad.add k) cs.length).run P w = .ok cs.toArray w :=
    run_loadCells_list (P := P) w (ad.add k) cs (fun j v hv => by
      obtain ⟨ad', e, h⟩ := hr (k + j) v (by
        rw [← hc, List.getElem?_take] at hv
        split at hv
        · rwa [List.getElem?_drop] at hv
        · cases hv)
      injection e with e
      subst e
      rw [add_of_add]
      exact h)
  have hsz := ht.size
  cases hq : P.info? t with
  | none => rw [hq] at hsz; simp at hsz
  | some i =>
    have hs : i.size = cs.length := by rw [hq] at hsz; simp at hsz; omega
    have hagg : (isAgg t).run P w = .ok true w := by
      unfold isAgg
      rw [Sem.run_bind, run_underlying hd1 w]
      cases d <;> simp_all
    simp only [ptrOf, shift_some, Instr.loadAt, Instr.sureAddr, Sem.run_bind, Sem.run_pure, Result.andThen_ok]
    simp [loadVar, Sem.run_bind, hagg, sizeOf, typeInfo, hq, hs, hl]
/-- a digest read out of a row of digests -/
theorem wpl_loadhash {t : TypeId} {x : Operand} {A : Option Addr} {k : Nat} (hx : a.eval x = ptrOf A (k * 32)) {l : List H32} (hr : HR w A (cellsOf l)) (ht : RowT P t 32) (hk : k < l.length)
    (h : wpList P ops Q rest (a.put dst (.agg (u8s (hget l k).l))) w) : wpList P ops Q (⟨dst, .load t x, ty, pos, after, none⟩ :: rest) a w :=
  wpl_of_run rfl (by
    show ((Instr.loadAt t (a.eval x)) >>= fun v => pure (Next.value v)).run P w = _
    rw [hx, Sem.run_bind, run_loadshift (k := k * 32) (cs := bs (hget l k).l) hr.out ht (by rw [bs_length, (hget l k).len]) (cellsOf_at l k hk) (by decide)]
    rfl) h
theorem wpl_indexH {t : TypeId} {x ix : Operand} {A : Option Addr} {n c k : Nat} (hx : a.eval x = .slice A n c) (hi : a.eval ix = .int .i64 (k : Int)) {e : TypeId} {bytes : Nat} {z : Value} (E : ElemT P t e 32 bytes z)
    {l : List H32} (hr : HR w A (cellsOf l)) (hl : l.length = n) (h1 : k < n) (_ : k < l.length)
    (h : wpList P ops Q rest (a.put dst (ptrOf A (k * 32))) w) : wpList P ops Q (⟨dst, .indexAddr t x ix, ty, pos, after, none⟩ :: rest) a w :=
  wpl_index hx hi E (by omega) (by omega) hr (by rw [cellsOf_len]; show 0 < l.length * 32; omega) (by simpa using h)
theorem wpl_indexH' {t : TypeId} {x ix : Operand} {A : Option Addr} {n c : Nat} {i : Int} (hx : a.eval x = .slice A n c) (hi : a.eval ix = .int .i64 i) {e : TypeId} {bytes : Nat} {z : Value} (E : ElemT P t e 32 bytes z)
    {l : List H32} (hr : HR w A (cellsOf l)) (hl : l.length = n) (h0 : 0 ≤ i) (h1 : i < n)
    (h : wpList P ops Q rest (a.put dst (ptrOf A (i.toNat * 32))) w) : wpList P ops Q (⟨dst, .indexAddr t x ix, ty, pos, after, none⟩ :: rest) a w :=
  wpl_index hx hi E (by omega) (by omega) hr (by rw [cellsOf_len]; show 0 < l.length * 32; omega) h
/-- .. as a slice of bytes -/
theorem wpl_slicehash {t e : TypeId} {x : Operand} {A : Option Addr} {k : Nat} (hx : a.eval x = ptrOf A k) (hu : P.underlying t = some (.array 32 e)) (hs : (P.info? e).map (·.size) = some 1) {vs : List Value} (hr : HR w A vs) (hl : 0 < vs.length)
    (h : wpList P ops Q rest (a.put dst (.slice (shift A k) 32 32)) w) : wpList P ops Q (⟨dst, .slice t x none none none, ty, pos, after, none⟩ :: rest) a w :=
  wpl_of_run rfl (by
    obtain ⟨ad, hA, _⟩ := hr.out.lt hl
    show ((Instr.sliceAt t (a.eval x) none none none) >>= fun v => pure (Next.value v)).run P w = _
    rw [hx, hA]
    cases hq : P.info? e with
    | none => rw [hq] at hs; simp at hs
    | some i => simp [Instr.sliceAt, run_underlying hu, ptrOf, shift, Instr.sureAddr, Instr.sliceBounds, sizeOf, typeInfo, hq, add_zero_spot]) h
theorem wpl_sliceH {t e : TypeId} {x : Operand} {A : Option Addr} {k : Nat} (hx : a.eval x = ptrOf A (k * 32)) (hu : P.underlying t = some (.array 32 e)) (hs : (P.info? e).map (·.size) = some 1) {l : List H32} (hr : HR w A (cellsOf l)) (hl : k < l.length)
    (h : wpList P ops Q rest (a.put dst (.slice (shift A (k * 32)) 32 32)) w) : wpList P ops Q (⟨dst, .slice t x none none none, ty, pos, after, none⟩ :: rest) a w :=
  wpl_slicehash hx hu hs hr (by rw [cellsOf_len]; show 0 < l.length * 32; omega) h
theorem own_setCells {e : TypeId} {size n c : Nat} {A : Option Addr} {xs : List Value} (ho : Own w e size A n c xs) {k m : Nat} {cs : List Value} (hm : cs.length = m) (hk : k + m ≤ xs.length) (hm0 : 0 < m) :
    ∃ g, A = some ⟨g, 0, none⟩ ∧ w.there g k m ∧ Own (w.setCells g k cs) e size A n c (xs.take k ++ cs ++ xs.drop (k + m)) ∧ Chg (rowOf A) w (w.setCells g k cs) := by
  rcases ho.form with ⟨_, rfl, rfl, rfl⟩ | ⟨g, cur, rfl, hb, h3, h4, h5, h6⟩
  · simp at hk; omega
  have hlx := ho.len
  have hcur : k + m ≤ cur.size := by
    have := congrArg List.length h6
    rw [List.length_take, Array.length_toList] at this
    omega
  have key : ∀ (cs : List Value) (k : Nat) (w : World) (cur : Array Value), Blk w g e cur → k + cs.length ≤ cur.size →
      Blk (w.setCells g k cs) g e (cur.toList.take k ++ cs ++ cur.toList.drop (k + cs.length)).toArray ∧ Chg (only g) w (w.setCells g k cs) := by
    intro cs
    induction cs with
    | nil =>
      intro k w cur hb _
      refine ⟨?_, Chg.refl _ _⟩
      simpa [World.setCells] using hb
    | cons v cs ih =>
      intro k w cur hb hk
      simp only [List.length_cons] at hk
      obtain ⟨i1, i2⟩ := ih (k + 1) (w.setCell ⟨g, k, none⟩ v) (cur.setIfInBounds k v) (hb.set_ k v) (by simpa using (by omega))
      refine ⟨?_, ((Chg.refl (only g) w).setCell (p := ⟨g, k, none⟩) (fun _ => rfl) v).trans i2 (fun _ _ h => h)⟩
      rw [World.setCells]
      have e1 : (cur.setIfInBounds k v).toList = cur.toList.set k v := by simp
      rw [e1] at i1
      have e2 : (cur.toList.set k v).take (k + 1) ++ cs ++ (cur.toList.set k v).drop (k + 1 + cs.length) = cur.toList.take k ++ (v :: cs) ++ cur.toList.drop (k + (cs.length + 1)) := by
        have hkl : k < cur.toList.length := by simp; omega
        rw [List.set_eq_take_append_cons_drop, if_pos hkl]
        have h1 : (cur.toList.take k ++ [v]).length = k + 1 := by rw [List.length_append, List.length_take]; simp; omega
        have h2 : cur.toList.take k ++ v :: cur.toList.drop (k + 1) = (cur.toList.take k ++ [v]) ++ cur.toList.drop (k + 1) := by simp
        rw [h2, List.take_left' h1, ← List.drop_drop, List.drop_left' h1, List.drop_drop, show k + 1 + cs.length = k + (cs.length + 1) by omega]
        simp
      rw [e2] at i1
      exact i1
  obtain ⟨i1, i2⟩ := key cs k w cur hb (by omega)
  refine ⟨g, rfl, fun j hj => ⟨?_, hb.frozen _⟩, ?_, ⟨i2.os, i2.tape, i2.output, i2.size, fun x hx hn => i2.block x hx (fun e => hn ⟨_, rfl, e.symm⟩)⟩⟩
  · rw [hb.cell]
    simp
    omega
  · refine Own.of_blk i1 h3 h4 (by simp; omega) ?_
    have hxl : xs.length ≤ cur.size := by rw [← h6, List.length_take, Array.length_toList]; omega
    have hcd : cur.toList = xs ++ cur.toList.drop (n * size) := by rw [← h6, List.take_append_drop]
    have h7 : (cur.toList.take k) = xs.take k := by rw [hcd, List.take_append_of_le_length (by omega)]
    rw [h7, hm]
    have h8 : cur.toList.drop (k + m) = xs.drop (k + m) ++ cur.toList.drop (n * size) := by
      conv => lhs; rw [hcd]
      rw [List.drop_append_of_le_length (by omega)]
    rw [h8, ← List.append_assoc, List.take_left']
    simp
    omega
/-- a digest written into a row of digests of the call's own -/
theorem wpl_storehash {t : TypeId} {x y : Operand} {A : Option Addr} {k : Nat} {hh : H32} (hx : a.eval x = ptrOf A (k * 32)) (hy : a.eval y = .agg (u8s hh.l)) {e : TypeId} {size n c : Nat} {l : List H32} (ho : HO w e size A n c (cellsOf l)) (ht : RowT P t 32) (hk : k < l.length)
    (h : ∀ w', Step (rowOf A) w w' → HO w' e size A n c (cellsOf (l.set k hh)) → wpList P ops Q rest (a.put dst undef) w') : wpList P ops Q (⟨dst, .store t x y, ty, pos, after, none⟩ :: rest) a w := by
  have hlen : (cellsOf l).length = l.length * 32 := cellsOf_len l
  have hk32 : k * 32 + 32 ≤ (cellsOf l).length := by rw [hlen]; omega
  obtain ⟨g, hA, h1, h2, h3⟩ := own_setCells ho.out (k := k * 32) (cs := bs hh.l) (m := 32) (by rw [bs_length, hh.len]) hk32 (by decide)
  refine wpl_of_unit rfl (w' := w.setCells g (k * 32) (bs hh.l)) ?_ (h _ ⟨h3⟩ ⟨?_⟩)
  · show ((Instr.storeAt t (a.eval x) (a.eval y)) >>= fun _ => pure Next.skip).run P w = _
    have hz : (u8s hh.l).size = 32 := hh.size
    rw [hx, hy, Sem.run_bind, hA, ptrOf, shift_some, Addr.add_mid, Nat.zero_add, run_storeAt_mid (P := P) w g (k * 32) t (u8s hh.l) (by rw [hz]; exact h1) (by rw [hz]; exact ht.size) (u8s_one _)]
    rfl
  · have e1 := cellsOf_set l k hh hk
    rw [← e1]
    exact h2
/-- bytes behind a row of bytes of the call's own -/
theorem wpl_appendB {s x : Operand} {t e : TypeId} {z : Value} {A : Option Addr} {n c : Nat} (hs : a.eval s = .slice A n c) {A2 : Option Addr} {m c2 : Nat} (hx : a.eval x = .slice A2 m c2) (E : ElemT P t e 1 1 z) {xs : List UInt8} (ho : HO w e 1 A n c (bs xs))
    {ys : List UInt8} (hr : HR w A2 (bs ys)) (hl : ys.length = m) (hlim : n + m ≤ 100000000000)
    (h : ∀ A' c' w', Step (rowOf A) w w' → HO w' e 1 A' (n + m) c' (bs (xs ++ ys)) → Grew w A A' → n + m ≤ c' → wpList P ops Q rest (a.put dst (.slice A' (n + m) c')) w') :
    wpList P ops Q (⟨dst, .call { callee := .builtin .append, args := #[s, x], argTypes := #[t, t] }, ty, pos, after, none⟩ :: rest) a w :=
  wpList_append_Own rfl s x E.out rfl hs ho.out hx hr.out (by rw [bs_length, hl, Nat.mul_one]) (bs_one _) (by unfold maxLen; omega) (by omega) (fun e => by
      subst e
      rcases ys with _ | ⟨y, ys⟩
      · simpa using hl.symm
      · obtain ⟨ad, h, _⟩ := hr.out 0 _ rfl
        cases h) fun A' c' w' g1 g2 g3 => by
    rw [bs_append] at g1
    refine h A' c' w' ⟨g2⟩ ⟨g1⟩ ⟨g3⟩ ?_
    rcases g1.form with ⟨_, h1, h2, _⟩ | ⟨_, _, _, _, h1, _⟩ <;> omega
/-- a digest behind a row of digests of the call's own -/
theorem wpl_appendH {s x : Operand} {t e : TypeId} {z : Value} {A : Option Addr} {n c : Nat} (hs : a.eval s = .slice A n c) {A2 : Option Addr} {c2 : Nat} (hx : a.eval x = .slice A2 1 c2) (E : ElemT P t e 32 32 z) {l : List H32} (ho : HO w e 32 A n c (cellsOf l))
    {hh : H32} (hr : HR w A2 (bs hh.l)) (hlim : n + 1 ≤ 1000000000)
    (h : ∀ A' c' w', Step (rowOf A) w w' → HO w' e 32 A' (n + 1) c' (cellsOf (l ++ [hh])) → Grew w A A' → n + 1 ≤ c' → wpList P ops Q rest (a.put dst (.slice A' (n + 1) c')) w') :
    wpList P ops Q (⟨dst, .call { callee := .builtin .append, args := #[s, x], argTypes := #[t, t] }, ty, pos, after, none⟩ :: rest) a w :=
  wpList_append_Own rfl s x E.out rfl hs ho.out hx hr.out (by rw [bs_length, hh.len]) (bs_one _) (by unfold maxLen; omega) (by omega) (fun e => by
      subst e
      have h5 := hh.len
      rcases h6 : hh.l with _ | ⟨y, ys⟩
      · rw [h6] at h5; simp at h5
      · obtain ⟨ad, h, _⟩ := hr.out 0 (u8v y) (by rw [h6]; rfl)
        cases h) fun A' c' w' g1 g2 g3 => by
    have g1' : Own w' e 32 A' (n + 1) c' (cellsOf (l ++ [hh])) := by rw [cellsOf_snoc]; exact g1
    refine h A' c' w' ⟨g2⟩ ⟨g1'⟩ ⟨g3⟩ ?_
    rcases g1.form with ⟨_, h1, h2, _⟩ | ⟨_, _, _, _, h1, _⟩ <;> omega
/-- a slice written out -/
theorem wpl_bslice {t : TypeId} {len : Nat} {ps : List (Nat × Operand)} {cs : Array Value} {e : TypeId} (hr : (Instr.buildSlice t len (ps.map fun (i, x) => (i, a.eval x)).toArray).run P w = .ok (.slice (some ⟨w.heap.size, 0, none⟩) len len) (w.alloc (.cells cs e)))
    (h : ∀ g w', Born w g → Step nowhere w w' → HB w' g e cs → wpList P ops Q rest (a.put dst (.slice (some ⟨g, 0, none⟩) len len)) w') : wpList P ops Q (⟨dst, .buildSlice t len ps.toArray, ty, pos, after, none⟩ :: rest) a w :=
  wpl_of_run rfl (by
    show ((Instr.buildSlice t len (ps.toArray.map fun (i, x) => (i, a.eval x))) >>= fun v => pure (Next.value v)).run P w = _
    rw [Sem.run_bind, List.map_toArray, hr]
    rfl) (h _ _ ⟨rfl⟩ inferInstance ⟨Blk.new w e cs⟩)
/-- digests made, all noughts -/
theorem wpl_makehash {t e : TypeId} {x y : Operand} {n : Nat} (hx : a.eval x = .int .i64 (n : Int)) (hy : a.eval y = .int .i64 (n : Int)) (E : ElemT P t e 32 32 (.agg (u8s zeroH.l))) (hn : n ≤ 100000)
    (h : ∀ g w', Born w g → Step nowhere w w' → HO w' e 32 (some ⟨g, 0, none⟩) n n (cellsOf (List.replicate n zeroH)) → wpList P ops Q rest (a.put dst (.slice (some ⟨g, 0, none⟩) n n)) w') :
    wpList P ops Q (⟨dst, .makeSlice t x y, ty, pos, after, none⟩ :: rest) a w := by
  obtain ⟨i, hi, hz, hs, hb⟩ := info_parts E.out.info
  obtain ⟨w', h1, h2, h3⟩ := run_makeSlice_full (P := P) (w := w) 0 t e i _ 32 E.out.under hi hz hs .i64 .i64 n (by omega) (by rw [hb]; omega) (by unfold maxLen; omega) (Nat.zero_le _)
  refine wpl_of_run rfl (w' := w') (v := .slice (some ⟨w.heap.size, 0, none⟩) n n) ?_ (h _ w' ⟨rfl⟩ ⟨(Chg.of_grown h3).mono (fun _ _ h => by cases h)⟩ ⟨?_⟩)
  · show ((Instr.makeSlice t (a.eval x) (a.eval y)) >>= fun v => pure (Next.value v)).run P w = _
    rw [hx, hy, Sem.run_bind, h1]
    rfl
  · have e1 : (madeCells (Value.agg (u8s zeroH.l)).cells (n * 32)).toList = cellsOf (List.replicate n zeroH) := by
      have h5 : ∀ v ∈ (madeCells (Value.agg (u8s zeroH.l)).cells (n * 32)).toList, v = .int .u8 0 := by
        intro v hv
        have h9 : (Value.agg (u8s zeroH.l)).cells.size = 32 := by decide
        have h8 : ∀ j, j < 32 → (Value.agg (u8s zeroH.l)).cells[j]! = .int .u8 0 := fun j hj => by
          rw [getElem!_pos _ j (by rw [h9]; exact hj)]
          have h10 : ∀ u ∈ (u8s zeroH.l).toList, u = .int .u8 0 := fun u hu => List.eq_of_mem_replicate (n := 32) hu
          exact h10 _ (by simp [Value.cells])
        simp only [madeCells, Array.toList_map, List.mem_map] at hv
        obtain ⟨j, _, rfl⟩ := hv
        rw [h9]
        exact h8 _ (Nat.mod_lt _ (by decide))
      have h6 : ∀ v ∈ cellsOf (List.replicate n zeroH), v = .int .u8 0 := by
        intro v hv
        obtain ⟨b, hb1, hb2⟩ := List.mem_flatMap.1 hv
        obtain rfl := List.eq_of_mem_replicate hb1
        exact List.eq_of_mem_replicate (n := 32) hb2
      have h7 : (cellsOf (List.replicate n zeroH)).length = n * 32 := by rw [cellsOf_len, List.length_replicate]; rfl
      rw [List.eq_replicate_iff.2 ⟨h7, h6⟩]
      exact List.eq_replicate_iff.2 ⟨by rw [Array.length_toList, size_madeCells], h5⟩
    rw [← e1]
    exact h2
end
end Go.Proofs.YthoipeamdolfgaaDoor
