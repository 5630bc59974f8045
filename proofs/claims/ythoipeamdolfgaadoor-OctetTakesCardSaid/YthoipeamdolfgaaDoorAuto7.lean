/- Regions that draw, with a fact that the calls in them keep. -/
import Derived.Test.YthoipeamdolfgaaDoorAuto6
open Go Go.RowKit
namespace Go.Proofs.YthoipeamdolfgaaDoor
def both (a b : Nat) : Nat → Prop := fun k => k = a ∨ k = b
class SzLe (w0 w : World) : Prop where
  out : w0.heap.size ≤ w.heap.size
instance (w : World) : SzLe w w := ⟨Nat.le_refl _⟩
instance SzLe.snoc (S : Nat → Prop) (w0 w w' : World) [s : Step S w w'] [n : SzLe w0 w] : SzLe w0 w' := ⟨Nat.le_trans n.out s.chg.size⟩
class Into (w0 : World) (T S : Nat → Prop) : Prop where
  out : ∀ x, x < w0.heap.size → T x → S x
instance (w0 : World) (S : Nat → Prop) : Into w0 nowhere S := ⟨fun _ _ h => h.elim⟩
instance (w0 : World) (a b : Nat) : Into w0 (only a) (both a b) := ⟨fun _ _ h => .inl h⟩
instance (w0 : World) (a b : Nat) : Into w0 (only b) (both a b) := ⟨fun _ _ h => .inr h⟩
instance (priority := 900) Into.refl_ (w0 : World) (S : Nat → Prop) : Into w0 S S := ⟨fun _ _ h => h⟩
instance (priority := 800) Into.born_ (w0 w : World) (z : Nat) (S : Nat → Prop) [b : Born w z] [n : SzLe w0 w] : Into w0 (only z) S := ⟨fun x hx h => by
  have h' : x = z := h
  have := b.eq
  have := n.out
  omega⟩
class Ch (S : Nat → Prop) (w0 w : World) : Prop where
  out : Chg S w0 w
instance Ch.refl_ (S : Nat → Prop) (w : World) : Ch S w w := ⟨Chg.refl _ _⟩
instance Ch.snoc (S T : Nat → Prop) (w0 w w' : World) [s : Step T w w'] [n : Ch S w0 w] [i : Into w0 T S] : Ch S w0 w' := ⟨n.out.trans s.chg i.out⟩
theorem stepC {S : Nat → Prop} {w0 w : World} [n : Ch S w0 w] : Step S w0 w := ⟨n.out⟩
instance OffB.both_ (a b g : Nat) [x : OffB (only a) g] [y : OffB (only b) g] : OffB (both a b) g := ⟨fun h => h.elim x.out y.out⟩
instance OffR.both_ (a b : Nat) (A : Option Addr) (vs : List Value) [x : OffR (only a) A vs] [y : OffR (only b) A vs] : OffR (both a b) A vs := ⟨fun hne ad e h => h.elim (x.out hne ad e) (y.out hne ad e)⟩
theorem NewA.monoS {w0 w : World} {A : Option Addr} (h : NewA w A) [n : SzLe w0 w] : NewA w0 A := ⟨fun ad e => Nat.le_trans n.out (h.out ad e)⟩
instance (priority := 700) Sub.born_ (w0 w : World) (z : Nat) (T : Nat → Prop) [b : Born w z] [n : SzLe w0 w] : Sub w0 (only z) T := ⟨fun x hx h => by
  have h' : x = z := h
  have := b.eq
  have := n.out
  omega⟩
class Inv (I : World → Prop) (w : World) : Prop where
  out : I w
/-- since the region began only T and what is new has changed, and I holds -/
class HeldI (I : outParam (World → Prop)) (T : outParam (Nat → Prop)) (wd : outParam World) (w : World) : Prop where
  out : Chg T wd w
  inv : I w
instance (priority := 500) Step.heldI (I : World → Prop) (T : Nat → Prop) (wd w : World) [h : HeldI I T wd w] : Step T wd w := ⟨h.out⟩
instance (priority := 600) HeldI.invI (I : World → Prop) (T : Nat → Prop) (wd w : World) [h : HeldI I T wd w] : Inv I w := ⟨h.inv⟩
instance HeldI.snoc (I : World → Prop) (S T : Nat → Prop) (wd w w' : World) [s : Step S w w'] [h : HeldI I T wd w] [u : Sub wd S T] [i : Inv I w'] : HeldI I T wd w' := ⟨h.out.trans s.chg u.out, i.out⟩
section
variable {P : Program} {ops : Array Oper} {Q : Exit → Act → World → Prop} {a : Act} {w : World}
theorem stop_dst {rest : List Oper} {Q : Exit → Act → World → Prop} {dst : Option Tmp} {op : Op} {ty : TypeId} {pos : String} {after : Array Edge} (h : wpList P ops Q (⟨dst, op, ty, pos, after, none⟩ :: rest) a w) : wpList P ops Q (⟨dst, op, ty, pos, after, none⟩ :: rest) a w := h
theorem wp_region_I {id : Nat} (I : World → Prop) (T : Nat → Prop) (hm : P.follows .mixedOrders = true) (hi : Inv I w.drew)
    (h : ∀ wd, Step nowhere w wd → HeldI I T wd wd → wpAnyH P .any ops Q (HeldI I T wd) ops.size (Array.replicate ops.size false) a wd) : (Code.region id ops true).wp P Q a w :=
  wp_region_held_drew (S := HeldI I T w.drew) hm ⟨Chg.refl _ _, hi.out⟩ (fun _ => h _ inferInstance ⟨Chg.refl _ _, hi.out⟩)
theorem yields_ofI {I : World → Prop} {T : Nat → Prop} {wd : World} {o : Oper} {v : Value} (hw : Region.wanted o (yielded ops a.tmps) = true) (h : ∀ w, HeldI I T wd w → (execOp a.eval o).run P w = .ok (.value v) w) : YieldsIf P ops (HeldI I T wd) o v a := .inl ⟨hw, h⟩
end
end Go.Proofs.YthoipeamdolfgaaDoor
