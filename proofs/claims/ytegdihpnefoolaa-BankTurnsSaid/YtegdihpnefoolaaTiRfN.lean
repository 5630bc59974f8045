/- RowE, RfA, RfB, RfC, RfN -/
import Derived.Test.YtegdihpnefoolaaTiBase
import Derived.Test.YtegdihpnefoolaaTiPgLong
import Derived.Test.YtegdihpnefoolaaTiPlain
section
open Go Go.RowKit
namespace Go.Proofs.Ytegdihpnefoolaa
def gt {α : Type} [RowC α] (l : List α) (k : Nat) : α := l.getD k RowC.zero
theorem enc_sz {α : Type} [RowC α] (a : α) {n : Nat} (h : RowC.size α = n) : (RowC.enc a).toArray.size = n := by
  simp [RowC.len, h]
section
variable {P : Program} {ops : Array Oper} {rest : List Oper} {a : Act} {w : World} {Q : Exit → Act → World → Prop} {dst : Option Tmp} {ty : TypeId} {pos : String} {after : Array Edge} {gd : Option (Nat × Bool)}
end
section
variable {P : Program} {ops : Array Oper} {rest : List Oper} {a : Act} {w : World} {Q : Exit → Act → World → Prop} {dst : Option Tmp} {ty : TypeId} {pos : String} {after : Array Edge}
end
end Go.Proofs.Ytegdihpnefoolaa
end
section
open Go Go.RowKit
namespace Go.Proofs.Ytegdihpnefoolaa
/-- what the reference's flash is -/
structure RFS where
  pgs : List (List UInt8)
  left : Int
  tear : Nat
  off : Bool
/-- its blocks: the struct, the table of its pages, each page -/
structure RFAt (w : World) (x : Nat) (A : Option Addr) (n c : Nat) (rows : List Row) (left : Int) (tear : Nat) (off : Bool) : Prop where
  head : Blk w x 63 #[.slice A n c, .int .i64 left, .int .i64 tear, .bool off]
  tab : Own w 22 1 A n c (cellsOf rows)
  num : rows.length = n
  each : ∀ r ∈ rows, Own w 5 1 r.A 64 r.c (bs r.p)
  len : ∀ r ∈ rows, r.p.length = 64
  tabx : OffB (rowOf A) x
  rowx : ∀ r ∈ rows, OffB (rowOf r.A) x
  rowt : ∀ r ∈ rows, OffA (rowOf r.A) A
  rows2 : ∀ i j, i < n → j < n → i ≠ j → OffA (rowOf (gt rows i).A) (gt rows j).A
  most : n ≤ 256
  torn : tear ≤ 64
def RF (w : World) (x : Nat) (T : Nat → Prop) (s : RFS) : Prop := ∃ (A : Option Addr) (n c : Nat) (rows : List Row), RFAt w x A n c rows s.left s.tear s.off ∧ rows.map Row.p = s.pgs ∧ T x ∧ (∀ k, rowOf A k → T k) ∧ ∀ r ∈ rows, ∀ k, rowOf r.A k → T k
theorem RFAt.chg {S : Nat → Prop} {w w' : World} {x : Nat} {A : Option Addr} {n c : Nat} {rows : List Row} {left : Int} {tear : Nat} {off : Bool} (h : RFAt w x A n c rows left tear off) (hc : Chg S w w') (hx : ¬ S x) (hA : ∀ k, rowOf A k → ¬ S k) (hr : ∀ r ∈ rows, ∀ k, rowOf r.A k → ¬ S k) : RFAt w' x A n c rows left tear off :=
  ⟨h.head.chg hc hx, h.tab.chg hc (fun ad e => hA _ ⟨ad, e, rfl⟩), h.num, fun r hm => (h.each r hm).chg hc (fun ad e => hr r hm _ ⟨ad, e, rfl⟩), h.len, h.tabx, h.rowx, h.rowt, h.rows2, h.most, h.torn⟩
theorem RF.far {S T : Nat → Prop} {w w' : World} {x : Nat} {s : RFS} (h : RF w x T s) (hc : Chg S w w') (hS : ∀ k, T k → ¬ S k) : RF w' x T s := by
  obtain ⟨A, n, c, rows, h1, h2, h3, h4, h5⟩ := h
  exact ⟨A, n, c, rows, h1.chg hc (hS _ h3) (fun k hk => hS k (h4 k hk)) (fun r hm k hk => hS k (h5 r hm k hk)), h2, h3, h4, h5⟩
theorem RF.calm {T : Nat → Prop} {w w' : World} {x : Nat} {s : RFS} (h : RF w x T s) (hc : Chg nowhere w w') : RF w' x T s := h.far hc (fun _ _ h => h)
/-- the reference's fuse: how many bytes are done, the answer, what it is then -/
def RFS.burn (s : RFS) : Nat × Nat × RFS := if s.left = 0 then (s.tear, 11, { s with off := true }) else if 0 < s.left then (64, 0, { s with left := s.left - 1 }) else (64, 0, s)
instance : CellT Try.prog 61 := ⟨fun _ => by kernel_rfl, fun _ => by kernel_rfl⟩
instance : CellT Try.prog 22 := ⟨fun _ => by kernel_rfl, fun _ => by kernel_rfl⟩
instance : CellT Try.prog 3 := ⟨fun _ => by kernel_rfl, fun _ => by kernel_rfl⟩
instance : CellT Try.prog 4 := ⟨fun _ => by kernel_rfl, fun _ => by kernel_rfl⟩
instance : CellT Try.prog 5 := ⟨fun _ => by kernel_rfl, fun _ => by kernel_rfl⟩
instance : RowT Try.prog 63 4 := ⟨by kernel_rfl, _, Try.underlying63, rfl⟩
instance : ElemT Try.prog 61 22 1 24 (.slice none 0 0) := ⟨⟨Try.underlying61, by kernel_rfl, rfl, by decide⟩⟩
instance : ElemT Try.prog 22 5 1 1 (.int .u8 0) := ⟨⟨Try.underlying22, by kernel_rfl, rfl, by decide⟩⟩
end Go.Proofs.Ytegdihpnefoolaa
end
section
open Go Go.RowKit
namespace Go.Proofs.Ytegdihpnefoolaa
section
variable {P : Program} {ops : Array Oper} {rest : List Oper} {a : Act} {w : World} {Q : Exit → Act → World → Prop} {dst : Option Tmp} {ty : TypeId} {pos : String} {after : Array Edge}
theorem bs_setB {d : List UInt8} {k : Nat} {v : Int} (hk : k < d.length) (hv : 0 ≤ v ∧ v < 256) : (bs d).take k ++ [Value.int .u8 v] ++ (bs d).drop (k + 1) = bs (d.set k (b8 v)) := by
  have hs1 : (bs d).take k ++ [Value.int .u8 v] ++ (bs d).drop (k + 1) = (bs d).set k (.int .u8 v) := by
    rw [List.set_eq_take_append_cons_drop, if_pos (by rw [bs_length]; exact hk)]
    simp
  rw [hs1]
  have := b8_in hv.1 hv.2
  rw [bs, bs, List.map_set]
  congr 1
  rw [u8v, ← this]
/-- a byte of a row of the call's own written -/
theorem wpl_storeB {t : TypeId} {x y : Operand} {A : Option Addr} {k : Nat} {v : Int} (hx : a.eval x = ptrOf A k) (hy : a.eval y = .int .u8 v) {e : TypeId} {n c : Nat} {d : List UInt8} (ho : HO w e 1 A n c (bs d)) [ht : CellT P t] (hk : k < d.length) (hv : 0 ≤ v ∧ v < 256)
    (h : ∀ w', Step (rowOf A) w w' → HO w' e 1 A n c (bs (d.set k (b8 v))) → wpList P ops Q rest (a.put dst undef) w') : wpList P ops Q (⟨dst, .store t x y, ty, pos, after, none⟩ :: rest) a w := by
  obtain ⟨g, hA, h1, h2, h3⟩ := own_setCells ho.out (k := k) (cs := [.int .u8 v]) (m := 1) rfl (by rw [bs_length]; omega) (by decide)
  refine wpl_of_unit rfl (w' := w.setCells g k [.int .u8 v]) ?_ (h _ ⟨h3⟩ ⟨?_⟩)
  · have hc := h1 0 (by decide)
    have hst := run_store P w ⟨g, k, none⟩ (.int .u8 v) .plain rfl
    rw [Nat.add_zero] at hc
    obtain ⟨u, hu⟩ := Option.isSome_iff_exists.1 hc.1
    rw [hu, hc.2] at hst
    show ((Instr.storeAt t (a.eval x) (a.eval y)) >>= fun _ => pure Next.skip).run P w = _
    rw [hx, hy, hA]
    simp [Instr.storeAt, Instr.sureAddr, ptrOf, shift_some, add_row, storeVar, Value.cells, ht.size1 w, storeCells, add_zero_spot, hst, World.setCells]
  · rw [← bs_setB hk hv]
    exact h2
end
def RFS.pageN (s : RFS) (j : Nat) : List UInt8 := s.pgs.getD j []
/-- an act on a page of the reference's flash -/
def RFS.act (s : RFS) (i : Int) (m : Nat) (f : List UInt8 → Nat → List UInt8) : Nat × RFS :=
  if s.off = true then (11, s) else if i < 0 ∨ (s.pgs.length : Int) ≤ i ∨ 64 < m then (1, s)
  else (s.burn.2.1, { s.burn.2.2 with pgs := s.pgs.set i.toNat (f (s.pageN i.toNat) (min m s.burn.1)) })
def erF : List UInt8 → Nat → List UInt8 := fun pg k => List.replicate k 255 ++ pg.drop k
def prF (b : List UInt8) : List UInt8 → Nat → List UInt8 := fun pg k => fall (pg.take k) (b.take k) ++ pg.drop k
theorem run_emptyR (w : World) : (Instr.buildSlice 22 0 #[]).run Try.prog w = .ok (.slice (some ⟨w.heap.size, 0, none⟩) 0 0) (w.alloc (.cells (u8s []) 5)) := by kernel_rfl
instance : Fact' (([] : List UInt8).length ≤ maxLen) := ⟨Nat.zero_le _⟩
end Go.Proofs.Ytegdihpnefoolaa
end
section
open Go Go.RowKit
namespace Go.Proofs.Ytegdihpnefoolaa
section
variable {P : Program} {ops : Array Oper} {rest : List Oper} {a : Act} {w : World} {Q : Exit → Act → World → Prop} {dst : Option Tmp} {ty : TypeId} {pos : String} {after : Array Edge} {gd : Option (Nat × Bool)}
end
end Go.Proofs.Ytegdihpnefoolaa
end
section
open Go Go.RowKit
namespace Go.Proofs.Ytegdihpnefoolaa
def zrowF (z : Nat) (A : Option Addr) : Nat → Prop := fun x => x = z ∨ rowOf A x
instance (w : World) (z : Nat) (A : Option Addr) : Sub w (only z) (zrowF z A) := ⟨fun _ _ h => .inl h⟩
instance (w : World) (z : Nat) (A : Option Addr) : Sub w (rowOf A) (zrowF z A) := ⟨fun _ _ h => .inr h⟩
instance (w : World) (z : Nat) (A : Option Addr) : Into w (only z) (zrowF z A) := ⟨fun _ _ h => .inl h⟩
instance (w : World) (z : Nat) (A : Option Addr) : Into w (rowOf A) (zrowF z A) := ⟨fun _ _ h => .inr h⟩
instance : ZeroT Try.prog 63 #[.slice none 0 0, .int .i64 0, .int .i64 0, .bool false] := ⟨.agg #[.slice none 0 0, .int .i64 0, .int .i64 0, .bool false], fun _ => by kernel_rfl, rfl⟩
theorem HR.ofBlkF {w : World} {z : Nat} {t : TypeId} {cs : Array Value} (h : HB w z t cs) : HR w (some ⟨z, 0, none⟩) cs.toList := ⟨fun k u hk => by
  refine ⟨_, rfl, ?_⟩
  rw [add_row, h.out.cell k]
  simpa using hk⟩
theorem rowRow {w : World} {z : Nat} {t : TypeId} {r : Row} (hl : r.p.length = 64) (h : HB w z t #[.slice r.A 64 r.c]) : HR w (some ⟨z, 0, none⟩) (cellsOf [r]) := by
  have h1 := HR.ofBlkF h
  have e : cellsOf [r] = (#[.slice r.A 64 r.c] : Array Value).toList := by
    show [Value.slice r.A r.p.length r.c] = _
    rw [hl]
  rw [e]
  exact h1
instance (priority := 700) OffA.ofBF (z : Nat) (A : Option Addr) [o : OffB (rowOf A) z] : OffA (only z) A := ⟨fun ad e h => o.out ⟨ad, e, h⟩⟩
instance OffA.growF (w : World) (A A' B : Option Addr) (e : TypeId) (size n c : Nat) (xs : List Value) [k : Grew w A A'] [h : HO w e size B n c xs] [o : OffA (rowOf B) A] : OffA (rowOf B) A' := ⟨fun ad ea ⟨bd, eb, hk⟩ => by
  rcases k.out with h1 | h1
  · rw [h1] at ea
    exact o.out ad ea ⟨bd, eb, hk⟩
  · rw [h1] at ea
    injection ea with ea
    have h2 := h.out.lt eb
    rw [hk, ← ea] at h2
    exact absurd h2 (Nat.lt_irrefl _)⟩
def RFS.fresh (N : Nat) : RFS := ⟨List.replicate N (ones 64), -1, 0, false⟩
end Go.Proofs.Ytegdihpnefoolaa
end
