/- Elements of rows of the call's own, written one by one; rows behind rows. -/
import Derived.Test.YthoipeamdolfgaaDoorAuto5
open Go Go.RowKit
namespace Go.Proofs.YthoipeamdolfgaaDoor
theorem HO.some_ {w : World} {e : TypeId} {size n c : Nat} {A : Option Addr} {xs : List Value} (h : HO w e size A n c xs) (hn : 0 < n) : ∃ g, A = some ⟨g, 0, none⟩ := by
  rcases h.out.form with ⟨_, h1, _⟩ | ⟨g, _, h1, _⟩
  · omega
  · exact ⟨g, h1⟩
instance (priority := 700) HO.ofEmptyH (w : World) (g : Nat) (e : TypeId) [h : HB w g e #[]] : HO w e 32 (some ⟨g, 0, none⟩) 0 0 (cellsOf ([] : List H32)) :=
  ⟨Own.of_blk h.out (Nat.le_refl _) (Nat.zero_le _) (by simp) (by simp [cellsOf])⟩
theorem xor_u8_in (a b : Int) : 0 ≤ bits BinOp.xor IntKind.u8 a b ∧ bits BinOp.xor IntKind.u8 a b < 256 := by
  have h : ∀ x : Int, 0 ≤ IntKind.u8.wrap x ∧ IntKind.u8.wrap x < 256 := fun x => by rw [IntKind.wrap_u8]; omega
  exact h _
/-- one byte of a digest set -/
def setH (h : H32) (j : Nat) (b : UInt8) : H32 := ⟨h.l.set j b, by rw [List.length_set, h.len]⟩
section
variable {P : Program} {ops : Array Oper} {rest : List Oper} {a : Act} {w : World} {Q : Exit → Act → World → Prop} {dst : Option Tmp} {ty : TypeId} {pos : String} {after : Array Edge} {gd : Option (Nat × Bool)}
/-- rows behind rows of the call's own -/
theorem wpl_appendR {α : Type} [RowC α] {s x : Operand} {t e : TypeId} {size bytes : Nat} {z : Value} {A : Option Addr} {n c : Nat} (hs : a.eval s = .slice A n c) {A2 : Option Addr} {m c2 : Nat} (hx : a.eval x = .slice A2 m c2) (E : ElemT P t e size bytes z)
    {l : List α} (ho : HO w e size A n c (cellsOf l)) {news : List α} (hr : HR w A2 (cellsOf news)) (hsz : size = RowC.size α) (hl : news.length = m) (hlim : n + m ≤ 1000000000) (hb : bytes ≤ 100000) (h0 : 0 < size)
    (h : ∀ A' c' w', Step (rowOf A) w w' → HO w' e size A' (n + m) c' (cellsOf (l ++ news)) → Grew w A A' → n + m ≤ c' → wpList P ops Q rest (a.put dst (.slice A' (n + m) c')) w') :
    wpList P ops Q (⟨dst, .call { callee := .builtin .append, args := #[s, x], argTypes := #[t, t] }, ty, pos, after, none⟩ :: rest) a w :=
  wpList_append_Own rfl s x E.out rfl hs ho.out hx hr.out (by rw [cellsOf_len, hl, hsz]) (cellsOf_one _) (by unfold maxLen; omega)
    (Nat.le_trans (Nat.mul_le_mul hlim hb) (by decide)) (fun e => by
      subst e
      rcases Nat.eq_zero_or_pos m with h1 | h1
      · exact h1
      · obtain ⟨ad, h, _⟩ := hr.out.lt (by rw [cellsOf_len, hl, ← hsz]; exact Nat.mul_pos h1 h0)
        cases h) fun A' c' w' g1 g2 g3 => by
    rw [← cellsOf_app] at g1
    refine h A' c' w' ⟨g2⟩ ⟨g1⟩ ⟨g3⟩ ?_
    rcases g1.form with ⟨_, h1, h2, _⟩ | ⟨_, _, _, _, h1, _⟩ <;> omega
/-- the address of an element, where the row is none -/
theorem ev_indexS {t : TypeId} {x ix : Operand} {ad : Addr} {n c : Nat} {i : Int} (hx : a.eval x = .slice (some ad) n c) (hi : a.eval ix = .int .i64 i) {e : TypeId} {size bytes : Nat} {z : Value} (E : ElemT P t e size bytes z) (h0 : 0 ≤ i) (h1 : i < n) :
    (execOp a.eval ⟨dst, .indexAddr t x ix, ty, pos, after, gd⟩).run P w = .ok (.value (ptrOf (some ad) (i.toNat * size))) w := by
  obtain ⟨ti, hti, hz, hs, hb⟩ := info_parts E.out.info
  show ((Instr.indexAt t (a.eval x) (a.eval ix)) >>= fun v => pure (Next.value v)).run P w = _
  rw [hx, hi]
  simp [Instr.indexAt, asIntOf, run_underlying E.out.under, sizeOf, typeInfo, hti, hs, h0, h1, ptrOf, shift]
theorem ev_indexSN {t : TypeId} {x ix : Operand} {ad : Addr} {n c k : Nat} (hx : a.eval x = .slice (some ad) n c) (hi : a.eval ix = .int .i64 (k : Int)) {e : TypeId} {size bytes : Nat} {z : Value} (E : ElemT P t e size bytes z) (h1 : k < n) :
    (execOp a.eval ⟨dst, .indexAddr t x ix, ty, pos, after, gd⟩).run P w = .ok (.value (ptrOf (some ad) (k * size))) w := by
  have := ev_indexS (P := P) (a := a) (w := w) (dst := dst) (ty := ty) (pos := pos) (after := after) (gd := gd) hx hi E (by omega) (by omega)
  simpa using this
/-- a byte of a digest in a row -/
theorem ev_indexArr {t e : TypeId} {x ix : Operand} {ad : Addr} {k m : Nat} {i : Int} (hx : a.eval x = ptrOf (some ad) k) (hi : a.eval ix = .int .i64 i) (hu : P.underlying t = some (.array m e)) (hs : (P.info? e).map (·.size) = some 1) (h0 : 0 ≤ i) (h1 : i < m) :
    (execOp a.eval ⟨dst, .indexAddr t x ix, ty, pos, after, gd⟩).run P w = .ok (.value (ptrOf (some ad) (k + i.toNat))) w := by
  show ((Instr.indexAt t (a.eval x) (a.eval ix)) >>= fun v => pure (Next.value v)).run P w = _
  rw [hx, hi]
  cases hq : P.info? e with
  | none => rw [hq] at hs; simp at hs
  | some j =>
    rw [hq] at hs
    simp at hs
    simp [Instr.indexAt, asIntOf, run_underlying hu, sizeOf, typeInfo, hq, hs, h0, h1, ptrOf, shift, Instr.sureAddr, add_of_add]
theorem wpl_loadbyteH {t : TypeId} {x : Operand} {A : Option Addr} {k j : Nat} (hx : a.eval x = ptrOf A (k * 32 + j)) {l : List H32} (hr : HR w A (cellsOf l)) [ht : CellT P t] (hk : k < l.length) (hj : j < 32)
    (h : wpList P ops Q rest (a.put dst (.int .u8 ((bget (hget l k).l j).toNat : Int))) w) : wpList P ops Q (⟨dst, .load t x, ty, pos, after, none⟩ :: rest) a w := by
  have hlen := cellsOf_len l
  have h32 : RowC.size H32 = 32 := rfl
  have hat := cellsOf_at l k hk
  rw [h32] at hat hlen
  have hv : (cellsOf l)[k * 32 + j]? = some (.int .u8 ((bget (hget l k).l j).toNat : Int)) := by
    have h1 : (((cellsOf l).drop (k * 32)).take 32)[j]? = (bs (hget l k).l)[j]? := by rw [hat]; rfl
    rw [List.getElem?_take, if_pos hj, List.getElem?_drop] at h1
    rw [h1]
    have h2 : j < (hget l k).l.length := by rw [H32.len]; exact hj
    simp [bs, bget, u8v, List.getElem?_map, List.getD_eq_getElem?_getD, List.getElem?_eq_getElem h2]
  obtain ⟨ad, rfl, hc⟩ := hr.out _ _ hv
  exact wpl_loadat (ad := ad.add (k * 32 + j)) (hx.trans rfl) hc h
theorem wpl_storebyteH {t : TypeId} {x y : Operand} {A : Option Addr} {k j : Nat} {v : Int} (hx : a.eval x = ptrOf A (k * 32 + j)) (hy : a.eval y = .int .u8 v) {e : TypeId} {n c : Nat} {l : List H32} (ho : HO w e 32 A n c (cellsOf l)) [ht : CellT P t] (hk : k < l.length) (hj : j < 32) (hv : 0 ≤ v ∧ v < 256)
    (h : ∀ w', Step (rowOf A) w w' → HO w' e 32 A n c (cellsOf (l.set k (setH (hget l k) j (b8 v)))) → wpList P ops Q rest (a.put dst undef) w') : wpList P ops Q (⟨dst, .store t x y, ty, pos, after, none⟩ :: rest) a w := by
  have hlen : (cellsOf l).length = l.length * 32 := cellsOf_len l
  obtain ⟨g, hA, h1, h2, h3⟩ := own_setCells ho.out (k := k * 32 + j) (cs := [.int .u8 v]) (m := 1) rfl (by rw [hlen]; omega) (by decide)
  refine wpl_of_unit rfl (w' := w.setCells g (k * 32 + j) [.int .u8 v]) ?_ (h _ ⟨h3⟩ ⟨?_⟩)
  · have hc := h1 0 (by decide)
    have hst := run_store P w ⟨g, k * 32 + j, none⟩ (.int .u8 v) .plain rfl
    rw [Nat.add_zero] at hc
    obtain ⟨u, hu⟩ := Option.isSome_iff_exists.1 hc.1
    rw [hu, hc.2] at hst
    show ((Instr.storeAt t (a.eval x) (a.eval y)) >>= fun _ => pure Next.skip).run P w = _
    rw [hx, hy, hA]
    simp [Instr.storeAt, Instr.sureAddr, ptrOf, shift_some, add_row, storeVar, Value.cells, ht.size1 w, storeCells, add_zero_spot, hst, World.setCells]
  · have h32 : RowC.size H32 = 32 := rfl
    have hat := cellsOf_at l k hk
    have hset := cellsOf_set l k (setH (hget l k) j (b8 v)) hk
    rw [h32] at hat hset
    have hlb : (bs (hget l k).l).length = 32 := by rw [bs_length, H32.len]
    have hdec : cellsOf l = (cellsOf l).take (k * 32) ++ (bs (hget l k).l ++ (cellsOf l).drop (k * 32 + 32)) := by
      conv => lhs; rw [← List.take_append_drop (k * 32) (cellsOf l), ← List.take_append_drop 32 ((cellsOf l).drop (k * 32)), List.drop_drop]
      rw [show ((cellsOf l).drop (k * 32)).take 32 = bs (hget l k).l from hat]
    have htl : ((cellsOf l).take (k * 32)).length = k * 32 := by rw [List.length_take]; omega
    have hs1 : (cellsOf l).take (k * 32 + j) ++ [Value.int .u8 v] ++ (cellsOf l).drop (k * 32 + j + 1) = (cellsOf l).set (k * 32 + j) (.int .u8 v) := by
      rw [List.set_eq_take_append_cons_drop, if_pos (by omega)]
      simp
    have hs2 : (cellsOf l).set (k * 32 + j) (.int .u8 v) = (cellsOf l).take (k * 32) ++ ((bs (hget l k).l).set j (.int .u8 v) ++ (cellsOf l).drop (k * 32 + 32)) := by
      conv => lhs; rw [hdec]
      rw [List.set_append, if_neg (by omega), htl, Nat.add_sub_cancel_left, List.set_append, if_pos (by omega)]
    have hs3 : (bs (hget l k).l).set j (.int .u8 v) = bs ((hget l k).l.set j (b8 v)) := by
      have := b8_in hv.1 hv.2
      rw [bs, bs, List.map_set]
      congr 1
      rw [u8v, ← this]
    rw [hs1, hs2, hs3, ← List.append_assoc] at h2
    have hset' : List.take (k * 32) (cellsOf l) ++ bs ((hget l k).l.set j (b8 v)) ++ List.drop (k * 32 + 32) (cellsOf l) = cellsOf (l.set k (setH (hget l k) j (b8 v))) := hset
    rw [hset'] at h2
    exact h2
end
end Go.Proofs.YthoipeamdolfgaaDoor
