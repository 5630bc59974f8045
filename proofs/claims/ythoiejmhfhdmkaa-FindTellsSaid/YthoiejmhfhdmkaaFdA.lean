/- The reference's ask. -/
import Derived.Test.YthoiejmhfhdmkaaFdX
open Go Go.RowKit
namespace Go.Proofs.Ythoiejmhfhdmkaa
def seenL (n : Nat) (f : Int → Bool) : Array Value := ((List.range n).map fun (j : Nat) => Value.bool (f (j : Int))).toArray
theorem seenL_size (n : Nat) (f : Int → Bool) : (seenL n f).size = n := by simp [seenL]
theorem seenL_get (n : Nat) (f : Int → Bool) (k : Nat) (h : k < n) : (seenL n f)[k]? = some (.bool (f (k : Int))) := by simp [seenL, h]
theorem seenL_set (n : Nat) (f : Int → Bool) (k : Nat) : (seenL n f).setIfInBounds k (.bool true) = seenL n (insI f k) := by
  apply Array.ext'
  apply List.ext_getElem?
  intro j
  simp only [seenL, Array.toList_setIfInBounds, List.getElem?_set, List.length_map, List.length_range, List.getElem?_map]
  by_cases h : k = j
  · subst h
    by_cases hk : k < n
    · simp [hk, insI]
    · simp [hk]
  · rw [if_neg h]
    by_cases hj : j < n
    · simp only [List.getElem?_range hj, Option.map_some, insI]
      rw [decide_eq_false (by omega), Bool.false_or]
    · simp [List.getElem?_eq_none (show (List.range n).length ≤ j by simp; omega)]
section
variable {P : Program} {ops : Array Oper} {rest : List Oper} {a : Act} {w : World} {Q : Exit → Act → World → Prop} {dst : Option Tmp} {ty : TypeId} {pos : String} {after : Array Edge}
theorem wpl_indexBl {t : TypeId} {x ix : Operand} {g n c k : Nat} (hx : a.eval x = .slice (some ⟨g, 0, none⟩) n c) (hi : a.eval ix = .int .i64 (k : Int)) {e : TypeId} {z : Value} (E : ElemT P t e 1 1 z) (h1 : k < n)
    (h : wpList P ops Q rest (a.put dst (.pointer (some ⟨g, k, none⟩))) w) : wpList P ops Q (⟨dst, .indexAddr t x ix, ty, pos, after, none⟩ :: rest) a w :=
  wpl_of_run rfl (by
    have e1 := ev_indexSN (P := P) (a := a) (w := w) (dst := dst) (ty := ty) (pos := pos) (after := after) (gd := none) hx hi E h1
    have e2 : ptrOf (some ⟨g, 0, none⟩) (k * 1) = .pointer (some ⟨g, k, none⟩) := by rw [ptrOf, shift_some, add_row, Nat.mul_one]
    rw [e2] at e1
    exact e1) h
theorem wpl_loadBl {t : TypeId} {x : Operand} {g n k : Nat} {f : Int → Bool} (hx : a.eval x = .pointer (some ⟨g, k, none⟩)) {tb : TypeId} (hb : HB w g tb (seenL n f)) (ht : CellT P t) (hk : k < n)
    (h : wpList P ops Q rest (a.put dst (.bool (f (k : Int)))) w) : wpList P ops Q (⟨dst, .load t x, ty, pos, after, none⟩ :: rest) a w := wpl_loadcell hx hb (seenL_get n f k hk) h
theorem wpl_storeBl {t : TypeId} {x y : Operand} {g n k : Nat} {f : Int → Bool} (hx : a.eval x = .pointer (some ⟨g, k, none⟩)) (hy : a.eval y = .bool true) {tb : TypeId} (hb : HB w g tb (seenL n f)) (ht : CellT P t) (hk : k < n)
    (h : ∀ w', Step (only g) w w' → HB w' g tb (seenL n (insI f k)) → wpList P ops Q rest (a.put dst undef) w') : wpList P ops Q (⟨dst, .store t x y, ty, pos, after, none⟩ :: rest) a w :=
  wpl_storecell hx hy hb rfl (by rw [seenL_size]; exact hk) (fun w' s hb' => h w' s (by rw [← seenL_set]; exact hb'))
end
instance : ElemT Try.prog 81 4 1 1 (.bool false) := ⟨⟨Try.underlying81, by kernel_rfl, rfl, by decide⟩⟩
instance : CellT Try.prog 81 := ⟨fun _ => by kernel_rfl, fun _ => by kernel_rfl⟩
structure RSeat (ts : List TS) (A : Option Addr) (zb zs : Nat) (w : World) : Prop where
  hr : HR w A (cellsOf ts)
  ht : HTs w ts
  o1 : OffB (only zb) zs
  o2 : OffB (only zs) zb
  o5 : OffR (only zb) A (cellsOf ts)
  o6 : OffR (only zs) A (cellsOf ts)
  o7 : OffT (only zb) ts
  o8 : OffT (only zs) ts
def srchR (A : Option Addr) (n c : Nat) (nm : ByteArray) (zb : Nat) (ov : Bool) : Array Value := #[.slice A n c, .string nm, .slice (some ⟨zb, 0, none⟩) n n, .bool ov]
def RAskC (ts : List TS) (nm : ByteArray) (r : Nat) : Prop :=
  ∀ (A : Option Addr) (n c zb zs i : Nat) (f : Int → Bool) (w : World),
    RSeat ts A zb zs w → HB w zs 83 #[.slice A n c, .string nm, .slice (some ⟨zb, 0, none⟩) n n, .bool false] → HB w zb 4 (seenL n f) →
    ts.length = n → n ≤ 1000000000000000 → i < n →
    Calls Try.prog 40 #[.pointer (some ⟨zs, 0, none⟩), .int .i64 (i : Int), .int .i64 ((4 : Int) - r)] w fun e w' =>
      e = .returned (.tuple #[.agg (RowC.enc (fT (askS ts nm r f i).hit)).toArray, .string (fW (askS ts nm r f i).hit), .bool (askS ts nm r f i).hit.isSome]) ∧ Step (both zb zs) w w' ∧ HB w' zb 4 (seenL n (askS ts nm r f i).asked) ∧
      HB w' zs 83 #[.slice A n c, .string nm, .slice (some ⟨zb, 0, none⟩) n n, .bool ((askS ts nm r f i).over && (askS ts nm r f i).hit.isNone)]
theorem str_cut (nm pre : ByteArray) (h : pre.size ≤ nm.size) (w : World) : (Instr.slice 9 (.string nm) none (some (.int .i64 (pre.size : Int))) none).run Try.prog w = .ok (.string (nm.extract 0 pre.size)) w := by
  simp [Instr.slice, Instr.sliceBounds, Instr.sliceBound, asIntOf, run_underlying Try.underlying9]
  omega
theorem pre_short (nm pre : ByteArray) (h : nm.size < pre.size) : hasPre nm pre = false := by
  unfold hasPre Lib.hasPrefix
  rw [Bool.eq_false_iff, ne_eq, List.isPrefixOf_iff_prefix]
  intro hp
  have := hp.length_le
  have e1 : nm.data.toList.length = nm.size := rfl
  have e2 : pre.data.toList.length = pre.size := rfl
  omega
theorem pre_cut (nm pre : ByteArray) : ((nm.extract 0 pre.size).toList == pre.toList) = hasPre nm pre := by
  have e2 : pre.data.toList.length = pre.size := rfl
  rw [strB, Bool.eq_iff_iff, decide_eq_true_eq]
  unfold hasPre Lib.hasPrefix
  rw [List.isPrefixOf_iff_prefix, List.prefix_iff_eq_take, e2]
  constructor
  · intro h1
    have h2 : (nm.extract 0 pre.size).data.toList = pre.data.toList := by rw [h1]
    rw [← h2]
    simp [ByteArray.data_extract]
  · intro h1
    apply bytes_inj
    rw [h1]
    simp [ByteArray.data_extract]
end Go.Proofs.Ythoiejmhfhdmkaa
