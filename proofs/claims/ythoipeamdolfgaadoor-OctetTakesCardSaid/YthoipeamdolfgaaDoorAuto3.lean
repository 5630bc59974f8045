/- Regions that draw their order: what holds of every world on the way. -/
import Derived.Test.YthoipeamdolfgaaDoorAuto2
import Derived.Deep.RegionHeld
open Go Go.RowKit
namespace Go.Proofs.YthoipeamdolfgaaDoor
theorem sA {α : Type} {xs : List α} {i : Nat} {a : α} : xs.toArray.setIfInBounds i a = (xs.set i a).toArray := List.setIfInBounds_toArray xs i a
theorem sB {α : Type} {x : α} {xs : List α} {i : Nat} {a : α} : (x :: xs).set (i + 1) a = x :: xs.set i a := rfl
theorem sC {α : Type} {x : α} {xs : List α} {a : α} : (x :: xs).set 0 a = a :: xs := rfl
/-- since the region began only T and what is new has changed -/
class Held (T : outParam (Nat → Prop)) (wd : outParam World) (w : World) : Prop where
  out : Chg T wd w
class Sub (w : World) (S T : Nat → Prop) : Prop where
  out : ∀ k, k < w.heap.size → S k → T k
instance (w : World) (T : Nat → Prop) : Sub w nowhere T := ⟨fun _ _ h => h.elim⟩
instance (w : World) (T : Nat → Prop) : Sub w T T := ⟨fun _ _ h => h⟩
instance (priority := 800) Sub.above (w : World) (S T : Nat → Prop) [a : Above w S] : Sub w S T := ⟨fun k hk hs => by have := a.out k hs; omega⟩
instance (priority := 500) Step.held (T : Nat → Prop) (wd w : World) [h : Held T wd w] : Step T wd w := ⟨h.out⟩
instance Held.snoc (S T : Nat → Prop) (wd w w' : World) [s : Step S w w'] [h : Held T wd w] [u : Sub wd S T] : Held T wd w' := ⟨h.out.trans s.chg u.out⟩
theorem heldStart (T : Nat → Prop) (w : World) : Held T w w := ⟨Chg.refl _ _⟩
section
variable {P : Program} {ops : Array Oper} {Q : Exit → Act → World → Prop} {a : Act} {w : World}
theorem wp_region_N {id : Nat} (T : Nat → Prop) (hm : P.follows .mixedOrders = true)
    (h : ∀ wd, Step nowhere w wd → Held T wd wd → wpAnyH P .any ops Q (Held T wd) ops.size (Array.replicate ops.size false) a wd) : (Code.region id ops true).wp P Q a w :=
  wp_region_held_drew (S := Held T w.drew) hm (heldStart T _) (fun _ => h _ inferInstance (heldStart T _))
/-- one operation alone -/
def onlyN (K : Act → World → Prop) : Exit → Act → World → Prop
  | .normal, a, w => K a w
  | _, _, _ => False
theorem Oper.wp_monoQ {o : Oper} {K : Act → World → Prop} {Q Q' : Exit → Act → World → Prop} (hQ : ∀ e a w, e ≠ .normal → Q e a w → Q' e a w) (h : o.wp P a w K Q) : o.wp P a w K Q' := by
  unfold Oper.wp at *
  generalize (execOp a.eval o).run P w = r at *
  cases r with
  | ok n w' =>
    cases n <;> simp only [Oper.upon] at h ⊢ <;>
      first
        | exact h
        | exact Calls.mono h (fun e w'' he => by
            cases e with
            | returned v => exact he
            | panicked c => exact hQ _ _ _ (by intro h; cases h) he
            | outgrown => exact he.elim fun a he => he.elim fun w he => ⟨a, w, hQ _ _ _ (by intro h; cases h) he⟩)
        | exact Rows.mono h (fun _ _ he => he)
  | halt x w' => cases x <;> simp only [Oper.upon] at h ⊢ <;> first | exact hQ _ _ _ (by intro h; cases h) h | exact h
theorem wpr_of_list {dst : Option Tmp} {op : Op} {ty : TypeId} {pos : String} {after : Array Edge} {g : Option (Nat × Bool)} {K : Act → World → Prop}
    (h : wpList P #[] (onlyN K) [⟨dst, op, ty, pos, after, none⟩] a w) : Oper.wp P ⟨dst, op, ty, pos, after, g⟩ a w K Q := by
  unfold wpList at h
  rw [if_pos (by simp [Region.wanted])] at h
  rcases h with h | ⟨_, a', w', h⟩
  · exact Oper.wp_monoQ (Q := onlyN K) (fun e a w hne h => by cases e <;> first | exact absurd rfl hne | exact (h : False).elim) h
  · exact h.elim
/-- the element itself, written out -/
def nth {α : Type} : List α → Nat → Option α
  | [], _ => none
  | x :: _, 0 => some x
  | _ :: l, n + 1 => nth l n
theorem nth_get {α : Type} : ∀ (l : List α) (i : Nat), l[i]? = nth l i
  | [], _ => by simp [nth]
  | x :: l, 0 => rfl
  | x :: l, n + 1 => by rw [List.getElem?_cons_succ, nth_get l n]; rfl
theorem takeH {md : Region.Mode} {S : World → Prop} {l : List Oper} {i : Nat} {oi : Oper} {v : Value} {fuel : Nat} {listed : Array Bool} (hi : nth l i = some oi)
    (hs : Region.noSelect l.toArray = true) (hf : Region.free md l.toArray listed i = true) (hr : (Region.ready md l.toArray listed).contains i = true)
    (hQ : ∀ c a w, Q (.panic c) (a.put oi.dst v) w → Q (.panic c) a w) (hy : YieldsIf P l.toArray S oi v a) (hS : S w)
    (h : wpAnyH P md l.toArray Q S fuel (listed.setIfInBounds i true) (a.put oi.dst v) w) : wpAnyH P md l.toArray Q S (fuel + 1) listed a w :=
  wpAnyH_take (by rw [List.getElem?_toArray, nth_get, hi]) hs hf hr hQ hy hS h
theorem goH {md : Region.Mode} {S : World → Prop} {l : List Oper} {fuel : Nat} {listed : Array Bool} {i : Nat} {o : Oper} (hr : Region.ready md l.toArray listed = [i]) (ho : nth l i = some o)
    (h : ∀ K' : Act → World → Prop, Shut (∀ a w, S w → (S w → wpAnyH P md l.toArray Q S fuel (listed.setIfInBounds i true) a w) → K' a w) → if Region.wanted o (yielded l.toArray a.tmps) = true then Oper.wp P o a w K' Q else K' (a.put o.dst undef) w) :
    wpAnyH P md l.toArray Q S (fuel + 1) listed a w :=
  wpAnyH_ready hr (by simp) (AllReadyH.cons (by rw [List.getElem?_toArray, nth_get, ho]) h AllReadyH.nil)
/-- what an operation yields in every such world -/
theorem yields_of {T : Nat → Prop} {wd : World} {o : Oper} {v : Value} (hw : Region.wanted o (yielded ops a.tmps) = true) (h : ∀ w, Held T wd w → (execOp a.eval o).run P w = .ok (.value v) w) : YieldsIf P ops (Held T wd) o v a := .inl ⟨hw, h⟩
section
variable {dst : Option Tmp} {ty : TypeId} {pos : String} {after : Array Edge} {gd : Option (Nat × Bool)}
theorem ev_loadrow {t : TypeId} {x : Operand} {g : Nat} (hx : a.eval x = .pointer (some ⟨g, 0, none⟩)) {tb : TypeId} {cs : Array Value} (hb : HB w g tb cs) {n : Nat} (hr : RowT P t n) (hn : cs.size = n) :
    (execOp a.eval ⟨dst, .load t x, ty, pos, after, gd⟩).run P w = .ok (.value (.agg cs)) w := by
  obtain ⟨d, hd1, hd2⟩ := hr.row
  show ((Instr.loadAt t (a.eval x)) >>= fun v => pure (Next.value v)).run P w = _
  rw [hx]
  simp only [Instr.loadAt, Instr.sureAddr, Sem.run_bind, Sem.run_pure, Result.andThen_ok, run_loadVar_row w g tb t cs (0, 0) d hb.out hd1 (by cases d <;> first | rfl | cases hd2) (by rw [hn]; exact hr.size)]
theorem ev_loadcell {t : TypeId} {x : Operand} {g k : Nat} (hx : a.eval x = .pointer (some ⟨g, k, none⟩)) {tb : TypeId} {cs : Array Value} (hb : HB w g tb cs) (ht : CellT P t) {v : Value} (hv : cs[k]? = some v) :
    (execOp a.eval ⟨dst, .load t x, ty, pos, after, gd⟩).run P w = .ok (.value v) w := by
  have hc : w.cell? ⟨g, k, none⟩ = some v := (hb.out.cell k).trans hv
  show ((Instr.loadAt t (a.eval x)) >>= fun v => pure (Next.value v)).run P w = _
  rw [hx]
  simp [Instr.loadAt, Instr.sureAddr, loadVar, ht.agg w, hc]
theorem ev_loadint {t : TypeId} {x : Operand} {g k : Nat} (hx : a.eval x = .pointer (some ⟨g, k, none⟩)) {tb : TypeId} {l : List Int} (hb : HB w g tb (i64s l)) (ht : CellT P t) (hk : k < l.length) :
    (execOp a.eval ⟨dst, .load t x, ty, pos, after, gd⟩).run P w = .ok (.value (.int .i64 (iget l k))) w := ev_loadcell hx hb ht (i64s_get l k hk)
theorem ev_loadbyte {t : TypeId} {x : Operand} {g k : Nat} (hx : a.eval x = .pointer (some ⟨g, k, none⟩)) {tb : TypeId} {l : List UInt8} (hb : HB w g tb (u8s l)) (ht : CellT P t) (hk : k < l.length) :
    (execOp a.eval ⟨dst, .load t x, ty, pos, after, gd⟩).run P w = .ok (.value (.int .u8 ((bget l k).toNat : Int))) w := ev_loadcell hx hb ht (u8s_get l k hk)
theorem ev_indexH {t : TypeId} {x ix : Operand} {A : Option Addr} {n c k : Nat} (hx : a.eval x = .slice A n c) (hi : a.eval ix = .int .i64 (k : Int)) {e : TypeId} {bytes : Nat} {z : Value} (E : ElemT P t e 32 bytes z)
    {l : List H32} (hr : HR w A (cellsOf l)) (hl : l.length = n) (h1 : k < n) :
    (execOp a.eval ⟨dst, .indexAddr t x ix, ty, pos, after, gd⟩).run P w = .ok (.value (ptrOf A (k * 32))) w := by
  obtain ⟨ad, hA, _⟩ := hr.out.lt (by rw [cellsOf_len]; show 0 < l.length * 32; omega)
  obtain ⟨ti, hti, hz, hs, hb⟩ := info_parts E.out.info
  show ((Instr.indexAt t (a.eval x) (a.eval ix)) >>= fun v => pure (Next.value v)).run P w = _
  rw [hx, hi, hA]
  simp [Instr.indexAt, asIntOf, run_underlying E.out.under, sizeOf, typeInfo, hti, hs, h1, ptrOf, shift]
theorem ev_loadhash {t : TypeId} {x : Operand} {A : Option Addr} {k : Nat} (hx : a.eval x = ptrOf A (k * 32)) {l : List H32} (hr : HR w A (cellsOf l)) (ht : RowT P t 32) (hk : k < l.length) :
    (execOp a.eval ⟨dst, .load t x, ty, pos, after, gd⟩).run P w = .ok (.value (.agg (u8s (hget l k).l))) w := by
  show ((Instr.loadAt t (a.eval x)) >>= fun v => pure (Next.value v)).run P w = _
  rw [hx, Sem.run_bind, run_loadshift (k := k * 32) (cs := bs (hget l k).l) hr.out ht (by rw [bs_length, (hget l k).len]) (cellsOf_at l k hk) (by decide)]
  rfl
end
end
end Go.Proofs.YthoipeamdolfgaaDoor
