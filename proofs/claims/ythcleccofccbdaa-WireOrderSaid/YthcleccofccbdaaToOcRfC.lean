/- Fr, DgRS, Ty, TyW, Eq, EqW, MapH, OtW, OtE, OtS, OtD, OtP, MkR, MkN, Hashes, OtQ, OcRfA, OcRfB, OcRfC -/
import Derived.Test.YthcleccofccbdaaToOcEl
import Derived.Test.YthcleccofccbdaaToDgB
import Derived.Test.YthcleccofccbdaaProg
import Derived.Stop.BytesEq
import Derived.Maps.OwnSet
import Derived.WideKeyArr
import Derived.StillTailTactics
import Derived.Test.YthcleccofccbdaaToOcW
section
open Go Go.RowKit
namespace Go.Proofs.Ythcleccofccbdaa
/-- a row that the call made since w0 -/
structure Fresh (w0 w : World) (A : Option Addr) (n c : Nat) (xs : List UInt8) : Prop where
  own : Own w 5 1 A n c (bs xs)
  len : n = xs.length
  chg : Chg nowhere w0 w
  new : ∀ ad, A = some ad → w0.heap.size ≤ ad.block
theorem Fresh.nil (w : World) : Fresh w w none 0 0 [] := ⟨Own.nil _ _ _, rfl, Chg.refl _ _, fun ad e => by cases e⟩
theorem Fresh.push {w0 w wx w2 : World} {A A' : Option Addr} {n c n' c' : Nat} {xs ys : List UInt8} (h : Fresh w0 w A n c xs) (h0 : Chg nowhere w wx) (hc : Chg (fun k => ∃ ad, A = some ad ∧ ad.block = k) wx w2)
    (ho : Own w2 5 1 A' n' c' (bs ys)) (hn : n' = ys.length) (hA : A' = A ∨ ∃ z, A' = some ⟨z, 0, none⟩ ∧ w.heap.size ≤ z) : Fresh w0 w2 A' n' c' ys := by
  refine ⟨ho, hn, (h.chg.step h0 (fun _ h => h.elim)).step hc ?_, ?_⟩
  · rintro x ⟨ad, e, rfl⟩
    exact h.new ad e
  · rintro ad rfl
    rcases hA with e | ⟨z, e, hz⟩
    · exact h.new ad e.symm
    · injection e with e
      subst e
      have := h.chg.size
      show w0.heap.size ≤ z
      omega
theorem Fresh.rd {w0 w : World} {A : Option Addr} {n c : Nat} {xs : List UInt8} (h : Fresh w0 w A n c xs) : Rd w A (bs xs) := h.own.rd
/-- a byte more -/
theorem Fresh.one {w0 w w2 : World} {A A' : Option Addr} {n c c' : Nat} {xs : List UInt8} {b : UInt8} {o : Obj} (h : Fresh w0 w A n c xs) (hc : Chg (fun k => ∃ ad, A = some ad ∧ ad.block = k) (w.alloc o) w2)
    (ho : Own w2 5 1 A' (n + 1) c' (bs xs ++ [.int .u8 (b.toNat : Int)])) (hA : A' = A ∨ A' = some ⟨w.heap.size + 1, 0, none⟩) : Fresh w0 w2 A' (n + 1) c' (xs ++ [b]) := by
  refine h.push (wx := w.alloc o) ((Chg.refl _ _).alloc _) hc (by simpa [bs, u8v] using ho) (by simp [h.len]) (hA.imp id fun e => ⟨_, e, Nat.le_succ _⟩)
/-- many bytes more -/
theorem Fresh.many {w0 w w2 : World} {A A' : Option Addr} {n m c c' : Nat} {xs ys : List UInt8} (h : Fresh w0 w A n c xs) (hm : ys.length = m) (hc : Chg (fun k => ∃ ad, A = some ad ∧ ad.block = k) w w2)
    (ho : Own w2 5 1 A' (n + m) c' (bs xs ++ bs ys)) (hA : A' = A ∨ ∃ z, A' = some ⟨z, 0, none⟩ ∧ w.heap.size ≤ z) : Fresh w0 w2 A' (n + m) c' (xs ++ ys) := by
  refine h.push (wx := w) (Chg.refl _ _) hc (by rw [bs_append] at ho; exact ho) (by simp [h.len, hm]) hA
theorem Fresh.le {w0 w : World} {A : Option Addr} {n c : Nat} {xs : List UInt8} (h : Fresh w0 w A n c xs) : n ≤ c := by
  rcases h.own.form with ⟨_, h1, h2, _⟩ | ⟨_, _, _, _, h1, _⟩ <;> omega
end Go.Proofs.Ythcleccofccbdaa
end
section
open Go Go.RowKit
namespace Go.Proofs.Ythcleccofccbdaa
end Go.Proofs.Ythcleccofccbdaa
end
section
open Go Go.RowKit
namespace Go.Proofs.Ythcleccofccbdaa
instance iTy_1 : ZeroT Try.prog 78 (u8s zeroH.l) := ⟨.agg (u8s zeroH.l), fun _ => by kernel_rfl, rfl⟩
instance iTy_2 : ZeroT Try.prog 287 (u8s (nots 35)) := ⟨.agg (u8s (nots 35)), fun _ => by kernel_rfl, rfl⟩
instance iTy_3 : RowT Try.prog 78 32 := ⟨by kernel_rfl, _, Try.underlying78, rfl⟩
instance iTy_4 : RowT Try.prog 287 35 := ⟨by kernel_rfl, _, Try.underlying287, rfl⟩
instance iTy_5 : CellT Try.prog 5 := ⟨fun _ => by kernel_rfl, fun _ => by kernel_rfl⟩
instance iTy_6 : CellT Try.prog 3 := ⟨fun _ => by kernel_rfl, fun _ => by kernel_rfl⟩
instance iTy_7 : ElemT Try.prog 28 5 1 1 (.int .u8 0) := ⟨elemB⟩
instance iTy_8 : ElemT Try.prog 22 78 32 32 (.agg (u8s zeroH.l)) := ⟨⟨Try.underlying22, by kernel_rfl, rfl, by decide⟩⟩
@[simp] theorem nots_len_ (n : Nat) : (nots n).length = n := nots_len n
/-- the digest of bytes -/
def shaH (xs : List UInt8) : H32 := ⟨sha xs, sha_len xs⟩
end Go.Proofs.Ythcleccofccbdaa
end
section
open Go Go.RowKit
namespace Go.Proofs.Ythcleccofccbdaa
instance iTyW_1 : CellT Try.prog 218 := ⟨fun _ => by kernel_rfl, fun _ => by kernel_rfl⟩
instance iTyW_2 : CellT Try.prog 89 := ⟨fun _ => by kernel_rfl, fun _ => by kernel_rfl⟩
instance iTyW_3 : CellT Try.prog 157 := ⟨fun _ => by kernel_rfl, fun _ => by kernel_rfl⟩
instance iTyW_4 : CellT Try.prog 216 := ⟨fun _ => by kernel_rfl, fun _ => by kernel_rfl⟩
instance iTyW_5 : ElemT Try.prog 216 157 1 8 .nilFunc := ⟨⟨Try.underlying216, by kernel_rfl, rfl, by decide⟩⟩
instance iTyW_6 : CellT Try.prog 255 := ⟨fun _ => by kernel_rfl, fun _ => by kernel_rfl⟩
instance iTyW_7 : CellT Try.prog 28 := ⟨fun _ => by kernel_rfl, fun _ => by kernel_rfl⟩
instance iTyW_8 : CellT Try.prog 3 := ⟨fun _ => by kernel_rfl, fun _ => by kernel_rfl⟩
instance iTyW_9 : RowT Try.prog 78 32 := ⟨by kernel_rfl, _, Try.underlying78, rfl⟩
instance iTyW_10 : RowT Try.prog 111 35 := ⟨by kernel_rfl, _, Try.underlying111, rfl⟩
instance iTyW_11 : ZeroT Try.prog 155 #[.slice none 0 0] := ⟨.agg #[.slice none 0 0], fun _ => by kernel_rfl, rfl⟩
instance iTyW_12 : CellT Try.prog 5 := ⟨fun _ => by kernel_rfl, fun _ => by kernel_rfl⟩
instance iTyW_13 : CellT Try.prog 4 := ⟨fun _ => by kernel_rfl, fun _ => by kernel_rfl⟩
instance iTyW_14 : CellT Try.prog 9 := ⟨fun _ => by kernel_rfl, fun _ => by kernel_rfl⟩
instance iTyW_15 : ElemT Try.prog 28 5 1 1 (.int .u8 0) := ⟨⟨Try.underlying28, by kernel_rfl, rfl, by decide⟩⟩
end Go.Proofs.Ythcleccofccbdaa
end
section
open Go Go.RowKit
namespace Go.Proofs.Ythcleccofccbdaa
instance iEq_1 : DecidableEq H32 := fun a b => decidable_of_iff (a.l = b.l) ⟨H32.ext', congrArg _⟩
end Go.Proofs.Ythcleccofccbdaa
end
section
open Go Go.RowKit
namespace Go.Proofs.Ythcleccofccbdaa
instance cellEqWR : CellT Try.prog 22 := ⟨fun _ => by kernel_rfl, fun _ => by kernel_rfl⟩
end Go.Proofs.Ythcleccofccbdaa
end
section
open Go Go.RowKit Go.Maps Go.MapKept Go.ChangeMaps Go.WideShapes Go.WideMaps
namespace Go.Proofs.Ythcleccofccbdaa
/-- an element stands as it is -/
def heldE : Value → Option (DataW Value × List MemPlace) := fun v => some (.held v, [])
theorem ownsMap_tight {P : Program} {kt : TypeId} {H : Type} {R : Value → Option (DataW H × List MemPlace)} {w : World} {b n : Nat} {D : DataW H} (h : w.ownsMap P kt R b n D) : w.ownsMap P kt R b (Maps.size D) D := by
  obtain ⟨es, clock, hb, F, hs, rfl⟩ := h
  exact ⟨es, clock, hb, F, by simp [Maps.size, length_sorted], rfl⟩
theorem ownsMap_chgI {H : Type} {P : Program} {k : TypeId} {R : Value → Option (DataW H × List MemPlace)} {w w' : World} {S : Nat → Prop} {b n : Nat} {D : DataW H} (h : w.ownsMap P k R b n D) (hc : Chg S w w') (hS : ¬ S b) : w'.ownsMap P k R b n D := by
  have hlt := h.lt
  obtain ⟨es, clock, hb, r⟩ := h
  exact ⟨es, clock, (hc.block b hlt hS).trans hb, r⟩
theorem turned_chgI {w w' : World} {b : Nat} (h : w.mapTurned w' b) : Chg (only b) w w' := by
  obtain ⟨es, clock, es', clock', hb, rfl⟩ := h
  refine ⟨rfl, rfl, rfl, by simp [setBlock], fun x hx hn => heap_setBlock_other hb _ (fun e => hn e)⟩
theorem mapM_all {α β : Type} {f : α → Option β} {g : α → β} : ∀ (l : List α), (∀ x ∈ l, f x = some (g x)) → l.mapM f = some (l.map g)
  | [], _ => rfl
  | x :: l, h => by
    rw [List.mapM_cons, h x (by simp), mapM_all l (fun y hy => h y (by simp [hy]))]
    rfl
/-- the type of the keys is a digest's -/
class HashKey (P : Program) (kt : TypeId) (e : outParam TypeId) : Prop where
  arr : ArrKey P kt e 32
  elem : P.underlying e = some (.int .u8)
  size : ∃ m, P.types.size = m + 1
section
variable {P : Program} {kt e : TypeId}
theorem HashKey.at (K : HashKey P kt e) (h : H32) : ∃ s, keyOf P kt (.agg (u8s h.l)) = some (.string s) := by
  obtain ⟨m0, hm0⟩ := K.size
  have hkt := K.arr.keyType K.size
  have hsz : (u8s h.l).size = 32 := H32.size h
  unfold keyOf
  simp only [K.arr.hu]
  rw [if_pos (by simp [hkt, Value.formed, K.arr.hu, K.arr.size, hsz]), hm0]
  unfold Program.keyLits
  simp only [K.arr.hu, Value.cells]
  rw [if_pos (by rw [K.arr.size]; simpa using hsz)]
  rw [mapM_all (g := fun i => [Lit.int .u8 ((bget h.l i).toNat : Int)])]
  · exact ⟨_, rfl⟩
  · intro i hi
    have hi' : i < 32 := by simpa using hi
    have hd : ((u8s h.l).toList.drop (i * P.cellsOf e)).take (P.cellsOf e) = [.int .u8 ((bget h.l i).toNat : Int)] := by
      have hl : i < h.l.length := by rw [h.len]; exact hi'
      rw [K.arr.one, Nat.mul_one, List.take_one]
      have h1 : (u8s h.l).toList[i]? = some (.int .u8 ((bget h.l i).toNat : Int)) := by
        simp [u8s, bs, u8v, bget, List.getD_eq_getElem?_getD, List.getElem?_eq_getElem hl]
      rw [List.head?_drop, h1]
      rfl
    rw [hd]
    unfold Program.keyLits
    simp only [K.elem]
    have h8 := (bget h.l i).toNat_lt
    simp [Lit.wf, IntKind.min, IntKind.max, IntKind.signed, IntKind.bits]
    omega
/-- a digest as a key -/
def hkeyL (P : Program) (kt : TypeId) (h : H32) : Lit := (keyOf P kt (.agg (u8s h.l))).getD (.bool false)
theorem HashKey.key (K : HashKey P kt e) (h : H32) : keyOf P kt (.agg (u8s h.l)) = some (hkeyL P kt h) := by
  obtain ⟨s, hs⟩ := K.at h
  rw [hkeyL, hs]
  rfl
theorem HashKey.inj (K : HashKey P kt e) {a b : H32} (h : hkeyL P kt a = hkeyL P kt b) : a = b := by
  have h1 := K.arr.law.inj (K.key a) (by rw [h]; exact K.key b)
  have h2 : u8s a.l = u8s b.l := by injection h1
  have h3 : bs a.l = bs b.l := by
    have := congrArg Array.toList h2
    simpa [u8s, bs] using this
  exact H32.ext' (bs_inj h3)
theorem HashKey.isKey (K : HashKey P kt e) (h : H32) : WideAt.IsKeyLit (hkeyL P kt h) := by
  obtain ⟨s, hs⟩ := K.at h
  rw [hkeyL, hs]
  trivial
/-- block g is a set of m digests: those of which f says so -/
def MapH (P : Program) (kt : TypeId) (w : World) (g m : Nat) (f : H32 → Bool) : Prop :=
  ∃ D : DataW Value, w.ownsMap P kt heldE g m D ∧ Maps.size D = m ∧ ∀ h : H32, Maps.has D (hkeyL P kt h) = f h ∧ D.atKey (hkeyL P kt h) (.held (.agg #[])) = .held (.agg #[])
variable {et mt : TypeId} {w w' : World} {g m : Nat} {S : Nat → Prop} {f : H32 → Bool}
theorem MapH.lt (h : MapH P kt w g m f) : g < w.heap.size := by
  obtain ⟨D, h1, _⟩ := h
  exact h1.lt
theorem MapH.chg (h : MapH P kt w g m f) (hc : Chg S w w') (hS : ¬ S g) : MapH P kt w' g m f := by
  obtain ⟨D, h1, h2⟩ := h
  exact ⟨D, ownsMap_chgI h1 hc hS, h2⟩
theorem MapH.made (w : World) : MapH P kt (w.alloc (.map #[] 0)) w.heap.size 0 (fun _ => false) :=
  ⟨_, World.ownsMap_made w P kt _, rfl, fun _ => ⟨rfl, rfl⟩⟩
theorem MapH.put (h : MapH P kt w g m f) (K : HashKey P kt e) (ht : P.underlying mt = some (.map kt et)) (hn : m < maxLen) (x : H32) :
    ∃ w', (Instr.mapUpdate mt (.map (some g)) (.agg (u8s x.l)) (.agg #[])).run P w = .ok () w' ∧ MapH P kt w' g (if f x then m else m + 1) (fun y => decide (y = x) || f y) ∧ Chg (only g) w w' := by
  obtain ⟨D, h1, h3, h2⟩ := h
  obtain ⟨w', hrun, ho, htn⟩ := h1.store (Keyed.of_law K.arr.law) ht hn (K.key x) (val := .agg #[]) (d := .held (.agg #[])) (ps := []) rfl
  have hsz : Maps.size (D.put (hkeyL P kt x) (.held (.agg #[]))) = if f x then m else m + 1 := by
    rw [Maps.size_put (h1.tidy (Keyed.of_law K.arr.law)), (h2 x).1, h3]
  refine ⟨w', hrun, ⟨_, hsz ▸ ownsMap_tight ho, hsz, fun y => ?_⟩, turned_chgI htn⟩
  by_cases hy : y = x
  · subst hy
    exact ⟨by rw [Maps.has_put_same h1.isMap (K.isKey y)]; simp, Maps.atKey_put_same h1.isMap (K.isKey y) _ _⟩
  · have hne : hkeyL P kt y ≠ hkeyL P kt x := fun e => hy (K.inj e)
    exact ⟨by rw [Maps.has_put_other hne, (h2 y).1]; simp [hy], by rw [Maps.atKey_put_other hne]; exact (h2 y).2⟩
end
/-- the set, as a fact of memory -/
class HMH (P : Program) (kt : outParam TypeId) (w : World) (g : Nat) (m : outParam Nat) (f : outParam (H32 → Bool)) : Prop where
  out : MapH P kt w g m f
/-- what the table says of a set's types -/
class MapHT (P : Program) (mt : TypeId) (kt : outParam TypeId) : Prop where
  key : ∃ e, HashKey P kt e
  under : ∃ et, P.underlying mt = some (.map kt et) ∧ ∀ w, (zeroValue et).run P w = .ok (.agg #[]) w
section
variable {P : Program} {kt mt : TypeId}
instance HMH.step (S : Nat → Prop) (w w' : World) (g m : Nat) (f : H32 → Bool) [s : Step S w w'] [h : HMH P kt w g m f] [o : OffB S g] : HMH P kt w' g m f := ⟨h.out.chg s.chg o.out⟩
variable {ops : Array Oper} {rest : List Oper} {a : Act} {w : World} {Q : Exit → Act → World → Prop} {dst : Option Tmp} {ty : TypeId} {pos : String} {after : Array Edge}
end
end Go.Proofs.Ythcleccofccbdaa
end
section
open Go Go.RowKit
namespace Go.Proofs.Ythcleccofccbdaa
/-- one step of a chain -/
def walkRow (chain : Int) (i : Nat) (h : H32) : List UInt8 := 1 :: b8 chain :: b8 i :: h.l
def stepH (chain : Int) (i : Nat) (h : H32) : H32 := shaH (walkRow chain i h)
/-- n steps from one on -/
def walkN (chain : Int) : Nat → Nat → H32 → H32
  | _, 0, h => h
  | i, n + 1, h => walkN chain (i + 1) n (stepH chain i h)
def walkS (chain f t : Int) (h : H32) : H32 := walkN chain (max f 0).toNat (min t 3 - max f 0).toNat h
end Go.Proofs.Ythcleccofccbdaa
end
section
open Go Go.RowKit
namespace Go.Proofs.Ythcleccofccbdaa
def joinH (l : List H32) : List UInt8 := l.flatMap (·.l)
def closedS (l : List H32) : H32 := shaH (2 :: joinH l)
end Go.Proofs.Ythcleccofccbdaa
end
section
open Go Go.RowKit
namespace Go.Proofs.Ythcleccofccbdaa
def secretRow (seed : H32) (leaf chain : Int) : List UInt8 := 0 :: (seed.l ++ [b8 leaf, b8 chain])
def secretS (seed : H32) (leaf chain : Int) : H32 := shaH (secretRow seed leaf chain)
/-- a function of a digest and a place -/
def mapH (g : H32 → Nat → H32) (l : List H32) (k : Nat) : List H32 := (List.range k).map fun i => g (hget l i) i
/-- so many are walked, the others are noughts -/
def doneH (g : H32 → Nat → H32) (l : List H32) (n k : Nat) : List H32 := mapH g l k ++ List.replicate (n - k) zeroH
end Go.Proofs.Ythcleccofccbdaa
end
section
open Go Go.RowKit
namespace Go.Proofs.Ythcleccofccbdaa
instance iOtD_1 : ZeroT Try.prog 250 (i64s (List.replicate 36 0)) := ⟨.agg (i64s (List.replicate 36 0)), fun _ => by kernel_rfl, rfl⟩
instance iOtD_2 : RowT Try.prog 250 36 := ⟨by kernel_rfl, _, Try.underlying250, rfl⟩
def secretsS (seed : H32) (leaf : Int) : List H32 := mapH (fun _ i => secretS seed leaf i) (List.replicate 36 zeroH) 36
/-- a digit out of a byte -/
def digI (b : UInt8) (k : Nat) : Int := bits BinOp.and IntKind.i64 (wrap64 ((b.toNat : Int) / 2 ^ (6 - 2 * (k % 4)))) 3
/-- the first digits, and what is left over by them -/
def digs (h : H32) (k : Nat) : List Int := (List.range k).map fun i => digI (bget h.l (i / 4)) i
def left (h : H32) : Nat → Int
  | 0 => 0
  | k + 1 => left h k + (3 - digI (bget h.l (k / 4)) k)
def digZ (ds : List Int) : List Int := ds ++ List.replicate (36 - ds.length) 0
/-- the last four -/
def lastD : Nat → Int → List Int
  | 0, _ => []
  | n + 1, q => lastD n q ++ [q / 4 ^ n % 4]
def digitsS (xs : List UInt8) : List Int := digs (shaH xs) 32 ++ lastD 4 (left (shaH xs) 32)
end Go.Proofs.Ythcleccofccbdaa
end
section
open Go Go.RowKit
namespace Go.Proofs.Ythcleccofccbdaa
def publicS (seed : H32) (leaf : Int) : H32 := closedS (mapH (fun h i => walkS i 0 3 h) (secretsS seed leaf) 36)
def signS (seed : H32) (leaf : Int) (m : List UInt8) : List H32 := mapH (fun h i => walkS i 0 (iget (digitsS m) i) h) (secretsS seed leaf) 36
def recoverS (m : List UInt8) (l : List H32) : H32 := closedS (mapH (fun h i => walkS i (iget (digitsS m) i) 3 h) l 36)
instance iOtP_1 : ZeroT Try.prog 277 (i64s (List.replicate 36 0)) := ⟨.agg (i64s (List.replicate 36 0)), fun _ => by kernel_rfl, rfl⟩
instance iOtP_2 : RowT Try.prog 277 36 := ⟨by kernel_rfl, _, Try.underlying277, rfl⟩
end Go.Proofs.Ythcleccofccbdaa
end
section
open Go Go.RowKit
namespace Go.Proofs.Ythcleccofccbdaa
def nodeOf (a b : List UInt8) : List UInt8 := sha (3 :: (a ++ b))
theorem nodeOf_len (a b : List UInt8) : (nodeOf a b).length = 32 := sha_len _
end Go.Proofs.Ythcleccofccbdaa
end
section
open Go Go.RowKit
namespace Go.Proofs.Ythcleccofccbdaa
end Go.Proofs.Ythcleccofccbdaa
end
section
open Go Go.RowKit
namespace Go.Proofs.Ythcleccofccbdaa
end Go.Proofs.Ythcleccofccbdaa
end
section
open Go Go.RowKit
namespace Go.Proofs.Ythcleccofccbdaa
end Go.Proofs.Ythcleccofccbdaa
end
section
open Go Go.RowKit
namespace Go.Proofs.Ythcleccofccbdaa
end Go.Proofs.Ythcleccofccbdaa
end
section
open Go Go.RowKit
namespace Go.Proofs.Ythcleccofccbdaa
end Go.Proofs.Ythcleccofccbdaa
end
section
open Go Go.RowKit
namespace Go.Proofs.Ythcleccofccbdaa
end Go.Proofs.Ythcleccofccbdaa
end
