/- MkH, MkA, MkB, MkC, MkU, KyA, KyB -/
import Derived.Test.YthcleccofccbdaaTrBase
import Derived.Test.YthcleccofccbdaaShelf
import Derived.Test.YthcleccofccbdaaTrOcRfC
section
open Go Go.RowKit
namespace Go.Proofs.Ythcleccofccbdaa
def halfN (n : Nat) : Nat := 2 ^ Nat.log2 (n - 1)
end Go.Proofs.Ythcleccofccbdaa
end
section
open Go Go.RowKit
namespace Go.Proofs.Ythcleccofccbdaa
def nodeH (a b : H32) : H32 := ⟨nodeOf a.l b.l, nodeOf_len a.l b.l⟩
def rootF : Nat → List H32 → H32
  | 0, _ => zeroH
  | _ + 1, [] => zeroH
  | _ + 1, [a] => a
  | f + 1, a :: b :: l => nodeH (rootF f ((a :: b :: l).take (halfN (l.length + 2)))) (rootF f ((a :: b :: l).drop (halfN (l.length + 2))))
def rootL (l : List H32) : H32 := rootF l.length l
/-- the way up -/
def pathF : Nat → List H32 → Nat → List H32
  | 0, _, _ => []
  | f + 1, l, i => if l.length < 2 then [] else
      if i < halfN l.length then pathF f (l.take (halfN l.length)) i ++ [rootL (l.drop (halfN l.length))]
      else pathF f (l.drop (halfN l.length)) (i - halfN l.length) ++ [rootL (l.take (halfN l.length))]
def pathL (l : List H32) (i : Nat) : List H32 := pathF l.length l i
/-- up the way -/
def upL : H32 → Nat → List H32 → H32
  | h, _, [] => h
  | h, i, o :: l => upL (if i % 2 = 0 then nodeH h o else nodeH o h) (i / 2) l
end Go.Proofs.Ythcleccofccbdaa
end
section
open Go Go.RowKit
namespace Go.Proofs.Ythcleccofccbdaa
def sub (l : List H32) (f t : Nat) : List H32 := (l.take t).drop f
end Go.Proofs.Ythcleccofccbdaa
end
section
open Go Go.RowKit
namespace Go.Proofs.Ythcleccofccbdaa
/-- the way up of any place -/
def pathA (l : List H32) (i : Int) : List H32 := if i < 0 ∨ (l.length : Int) ≤ i then [] else pathL l i.toNat
end Go.Proofs.Ythcleccofccbdaa
end
section
open Go Go.RowKit
namespace Go.Proofs.Ythcleccofccbdaa
end Go.Proofs.Ythcleccofccbdaa
end
section
open Go Go.RowKit
namespace Go.Proofs.Ythcleccofccbdaa
theorem HR.ofBlkL {w : World} {z : Nat} {t : TypeId} {cs : Array Value} (h : HB w z t cs) : HR w (some ⟨z, 0, none⟩) cs.toList := ⟨fun k u hk => by
  refine ⟨_, rfl, ?_⟩
  rw [add_row, h.out.cell k]
  simpa using hk⟩
def keyL (seed : H32) (used : Int) (gr : Bool) (tree : List H32) : List Value := bs seed.l ++ (.int .i64 used :: .bool gr :: cellsOf tree)
def leavesS (seed : H32) : List H32 := (List.range 16).map fun (i : Nat) => publicS seed (i : Int)
section
variable {seed : H32} {used : Int} {gr : Bool} {tree : List H32}
end
section
variable {P : Program} {ops : Array Oper} {rest : List Oper} {a : Act} {w : World} {Q : Exit → Act → World → Prop} {dst : Option Tmp} {ty : TypeId} {pos : String} {after : Array Edge} {gd : Option (Nat × Bool)}
variable {seed : H32} {used : Int} {gr : Bool} {tree : List H32}
end
end Go.Proofs.Ythcleccofccbdaa
end
section
open Go Go.RowKit
namespace Go.Proofs.Ythcleccofccbdaa
class NewB (w : outParam World) (g : Nat) : Prop where
  out : w.heap.size ≤ g
instance Above.newB (w0 w : World) (g : Nat) [b : NewB w g] [n : Nw w0 w] : Above w0 (only g) := ⟨fun k h => by
  have h' : k = g := h
  rw [h']
  exact Nat.le_trans n.out.size b.out⟩
instance (priority := 900) OffB.newB1 (w : World) (g z : Nat) (t : TypeId) (cs : Array Value) [b : NewB w g] [h : HB w z t cs] : OffB (only g) z := ⟨fun e => by
  have e' : z = g := e
  have := h.out.lt
  have := b.out
  omega⟩
instance (priority := 900) OffB.newB3 (w : World) (g z : Nat) (t : TypeId) (cs : Array Value) [b : NewB w g] [h : HB w z t cs] : OffB (only z) g := ⟨fun e => by
  have e' : g = z := e
  have := h.out.lt
  have := b.out
  omega⟩
instance (priority := 900) OffR.newB1 (w : World) (g : Nat) (A : Option Addr) (vs : List Value) [b : NewB w g] [h : HR w A vs] : OffR (only g) A vs := ⟨fun hne ad e hk => by
  have h1 := rd_lt h.out hne e
  have hk' : ad.block = g := hk
  have := b.out
  omega⟩
instance iKyB_1 : ZeroT Try.prog 123 #[.int .i64 0, .slice none 0 0, .slice none 0 0] := ⟨.agg #[.int .i64 0, .slice none 0 0, .slice none 0 0], fun _ => by kernel_rfl, rfl⟩
instance iKyB_2 : RowT Try.prog 123 3 := ⟨by kernel_rfl, _, Try.underlying123, rfl⟩
instance iKyB_3 : CellT Try.prog 22 := ⟨fun _ => by kernel_rfl, fun _ => by kernel_rfl⟩
instance iKyB_4 : CellT Try.prog 4 := ⟨fun _ => by kernel_rfl, fun _ => by kernel_rfl⟩
def tree0 : List H32 := List.replicate 16 zeroH
def oneH : H32 := ⟨1 :: List.replicate 31 0, rfl⟩
end Go.Proofs.Ythcleccofccbdaa
end
