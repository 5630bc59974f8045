/- What two blocks may have turned; follow, over ask. -/
import Derived.Test.YtojbbmgghhmgmaaFdS
open Go Go.RowKit
namespace Go.Proofs.Ytojbbmgghhmgmaa
def both (a b : Nat) : Nat → Prop := fun k => k = a ∨ k = b
class SzLe (w0 w : World) : Prop where
  out : w0.heap.size ≤ w.heap.size
instance (w : World) : SzLe w w := ⟨Nat.le_refl _⟩
instance SzLe.snoc (S : Nat → Prop) (w0 w w' : World) [s : Step S w w'] [n : SzLe w0 w] : SzLe w0 w' := ⟨Nat.le_trans n.out s.chg.size⟩
class Into (w0 : World) (T S : Nat → Prop) : Prop where
  out : ∀ x, x < w0.heap.size → T x → S x
instance (w0 : World) (S : Nat → Prop) : Into w0 nowhere S := ⟨fun _ _ h => h.elim⟩
instance (w0 : World) (a b : Nat) : Into w0 (only a) (both a b) := ⟨fun _ _ h => .inl h⟩
instance (w0 : World) (a b : Nat) : Into w0 (only b) (both a b) := ⟨fun _ _ h => .inr h⟩
instance (priority := 900) Into.refl_ (w0 : World) (S : Nat → Prop) : Into w0 S S := ⟨fun _ _ h => h⟩
instance (priority := 800) Into.born_ (w0 w : World) (z : Nat) (S : Nat → Prop) [b : Born w z] [n : SzLe w0 w] : Into w0 (only z) S := ⟨fun x hx h => by
  have h' : x = z := h
  have := b.eq
  have := n.out
  omega⟩
class Ch (S : Nat → Prop) (w0 w : World) : Prop where
  out : Chg S w0 w
instance Ch.refl_ (S : Nat → Prop) (w : World) : Ch S w w := ⟨Chg.refl _ _⟩
instance Ch.snoc (S T : Nat → Prop) (w0 w w' : World) [s : Step T w w'] [n : Ch S w0 w] [i : Into w0 T S] : Ch S w0 w' := ⟨n.out.trans s.chg i.out⟩
theorem stepC {S : Nat → Prop} {w0 w : World} [n : Ch S w0 w] : Step S w0 w := ⟨n.out⟩
instance OffB.both_ (a b g : Nat) [x : OffB (only a) g] [y : OffB (only b) g] : OffB (both a b) g := ⟨fun h => h.elim x.out y.out⟩
instance OffR.both_ (a b : Nat) (A : Option Addr) (vs : List Value) [x : OffR (only a) A vs] [y : OffR (only b) A vs] : OffR (both a b) A vs := ⟨fun hne ad e h => h.elim (x.out hne ad e) (y.out hne ad e)⟩
instance OffT.both_ (a b : Nat) (ts : List TS) [x : OffT (only a) ts] [y : OffT (only b) ts] : OffT (both a b) ts := ⟨fun t ht =>
  ⟨fun hne ad e h => h.elim ((x.out t ht).1 hne ad e) ((y.out t ht).1 hne ad e), fun hne ad e h => h.elim ((x.out t ht).2 hne ad e) ((y.out t ht).2 hne ad e)⟩⟩
def hitT (R : Res) (tg : TG) : TG := match R.hit with | some p => p.1 | none => tg
def hitW (R : Res) (who : ByteArray) : ByteArray := match R.hit with | some p => p.2 | none => who
def hitF (R : Res) (fd : Bool) : Bool := match R.hit with | some _ => true | none => fd
/-- what a search rests on in memory -/
structure Seat (ts : List TS) (nm : ByteArray) (A : Option Addr) (n c gf ga zs : Nat) (mf : Nat) (ff : ByteArray → Option Int) (w : World) : Prop where
  hr : HR w A (cellsOf ts)
  ht : HTs w ts
  hm : HMS w gf mf ff
  o1 : OffB (only ga) zs
  o2 : OffB (only zs) ga
  o3 : OffB (only ga) gf
  o4 : OffB (only zs) gf
  o5 : OffR (only ga) A (cellsOf ts)
  o6 : OffR (only zs) A (cellsOf ts)
  o7 : OffT (only ga) ts
  o8 : OffT (only zs) ts
def AskC (ts : List TS) (nm : ByteArray) (r : Nat) : Prop :=
  ∀ (A : Option Addr) (n c gf ga zs mf m i : Nat) (ff : ByteArray → Option Int) (f : Int → Bool) (tg : TG) (who : ByteArray) (fd : Bool) (w : World),
    Seat ts nm A n c gf ga zs mf ff w → HSI w ga m f → HB w zs 97 (srchL A n c nm gf ga tg who fd).toArray →
    ts.length = n → n ≤ 1000000000000000 → (∀ x, ff x = (placeS ts x).map fun j => (j : Int)) → m ≤ cnt f n → f (i : Int) = false → i < n →
    Calls Try.prog 37 #[.pointer (some ⟨zs, 0, none⟩), .int .i64 (i : Int), .int .i64 ((4 : Int) - r)] w fun e w' => ∃ m', e = .returned (.bool (askS ts nm r f i).over) ∧ Step (both ga zs) w w' ∧ m' ≤ cnt (askS ts nm r f i).asked n ∧ HSI w' ga m' (askS ts nm r f i).asked ∧
      HB w' zs 97 (srchL A n c nm gf ga (hitT (askS ts nm r f i) tg) (hitW (askS ts nm r f i) who) (hitF (askS ts nm r f i) fd)).toArray
/-- what follows at this depth -/
def folR (ts : List TS) (nm : ByteArray) : Nat → (Int → Bool) → ByteArray → Res
  | 0, f, _ => ⟨f, none, false⟩
  | r + 1, f, x => folS ts (askS ts nm r) f x
theorem askS_eq (ts : List TS) (nm : ByteArray) (r : Nat) (f : Int → Bool) (i : Nat) : askS ts nm r f i = match ownF (gt ts i).L nm with
    | some g => ⟨insI f i, some (g, (gt ts i).name), true⟩
    | none => loopS (folR ts nm r) nm (gt ts i).D (insI f i) := by
  cases r with
  | zero => rfl
  | succ r => rfl
end Go.Proofs.Ytojbbmgghhmgmaa
