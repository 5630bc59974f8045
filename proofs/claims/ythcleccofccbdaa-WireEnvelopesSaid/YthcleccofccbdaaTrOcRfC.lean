/- Fr, DgRS, Ty, TyW, Eq, MapH, OtW, OtE, OtS, OtD, OtP, MkR, MkN, OtQ, OcRfA, EqW, OcRfB, OcRfC -/
import Derived.Test.YthcleccofccbdaaTrOcEl
import Derived.Test.YthcleccofccbdaaTrDgB
import Derived.Test.YthcleccofccbdaaTrBase
import Derived.Test.YthcleccofccbdaaProg
import Derived.Stop.BytesEq
import Derived.Maps.OwnSet
import Derived.WideKeyArr
import Derived.StillTailTactics
import Derived.Test.YthcleccofccbdaaTrOcW
section
open Go Go.RowKit
namespace Go.Proofs.Ythcleccofccbdaa
/-- a row that the call made since w0 -/
structure Fresh (w0 w : World) (A : Option Addr) (n c : Nat) (xs : List UInt8) : Prop where
  own : Own w 5 1 A n c (bs xs)
  len : n = xs.length
  chg : Chg nowhere w0 w
  new : ∀ ad, A = some ad → w0.heap.size ≤ ad.block
theorem Fresh.nil (w : World) : Fresh w w none 0 0 [] := ⟨Own.nil _ _ _, rfl, Chg.refl _ _, fun ad e => by cases e⟩
theorem Fresh.push {w0 w wx w2 : World} {A A' : Option Addr} {n c n' c' : Nat} {xs ys : List UInt8} (h : Fresh w0 w A n c xs) (h0 : Chg nowhere w wx) (hc : Chg (fun k => ∃ ad, A = some ad ∧ ad.block = k) wx w2)
    (ho : Own w2 5 1 A' n' c' (bs ys)) (hn : n' = ys.length) (hA : A' = A ∨ ∃ z, A' = some ⟨z, 0, none⟩ ∧ w.heap.size ≤ z) : Fresh w0 w2 A' n' c' ys := by
  refine ⟨ho, hn, (h.chg.step h0 (fun _ h => h.elim)).step hc ?_, ?_⟩
  · rintro x ⟨ad, e, rfl⟩
    exact h.new ad e
  · rintro ad rfl
    rcases hA with e | ⟨z, e, hz⟩
    · exact h.new ad e.symm
    · injection e with e
      subst e
      have := h.chg.size
      show w0.heap.size ≤ z
      omega
theorem Fresh.rd {w0 w : World} {A : Option Addr} {n c : Nat} {xs : List UInt8} (h : Fresh w0 w A n c xs) : Rd w A (bs xs) := h.own.rd
/-- a byte more -/
theorem Fresh.one {w0 w w2 : World} {A A' : Option Addr} {n c c' : Nat} {xs : List UInt8} {b : UInt8} {o : Obj} (h : Fresh w0 w A n c xs) (hc : Chg (fun k => ∃ ad, A = some ad ∧ ad.block = k) (w.alloc o) w2)
    (ho : Own w2 5 1 A' (n + 1) c' (bs xs ++ [.int .u8 (b.toNat : Int)])) (hA : A' = A ∨ A' = some ⟨w.heap.size + 1, 0, none⟩) : Fresh w0 w2 A' (n + 1) c' (xs ++ [b]) := by
  refine h.push (wx := w.alloc o) ((Chg.refl _ _).alloc _) hc (by simpa [bs, u8v] using ho) (by simp [h.len]) (hA.imp id fun e => ⟨_, e, Nat.le_succ _⟩)
/-- many bytes more -/
theorem Fresh.many {w0 w w2 : World} {A A' : Option Addr} {n m c c' : Nat} {xs ys : List UInt8} (h : Fresh w0 w A n c xs) (hm : ys.length = m) (hc : Chg (fun k => ∃ ad, A = some ad ∧ ad.block = k) w w2)
    (ho : Own w2 5 1 A' (n + m) c' (bs xs ++ bs ys)) (hA : A' = A ∨ ∃ z, A' = some ⟨z, 0, none⟩ ∧ w.heap.size ≤ z) : Fresh w0 w2 A' (n + m) c' (xs ++ ys) := by
  refine h.push (wx := w) (Chg.refl _ _) hc (by rw [bs_append] at ho; exact ho) (by simp [h.len, hm]) hA
theorem Fresh.le {w0 w : World} {A : Option Addr} {n c : Nat} {xs : List UInt8} (h : Fresh w0 w A n c xs) : n ≤ c := by
  rcases h.own.form with ⟨_, h1, h2, _⟩ | ⟨_, _, _, _, h1, _⟩ <;> omega
end Go.Proofs.Ythcleccofccbdaa
end
section
open Go Go.RowKit
namespace Go.Proofs.Ythcleccofccbdaa
end Go.Proofs.Ythcleccofccbdaa
end
section
open Go Go.RowKit
namespace Go.Proofs.Ythcleccofccbdaa
instance iTy_1 : ZeroT Try.prog 78 (u8s zeroH.l) := ⟨.agg (u8s zeroH.l), fun _ => by kernel_rfl, rfl⟩
instance iTy_2 : ZeroT Try.prog 287 (u8s (nots 35)) := ⟨.agg (u8s (nots 35)), fun _ => by kernel_rfl, rfl⟩
instance iTy_3 : RowT Try.prog 78 32 := ⟨by kernel_rfl, _, Try.underlying78, rfl⟩
instance iTy_4 : RowT Try.prog 287 35 := ⟨by kernel_rfl, _, Try.underlying287, rfl⟩
instance iTy_5 : CellT Try.prog 5 := ⟨fun _ => by kernel_rfl, fun _ => by kernel_rfl⟩
instance iTy_6 : CellT Try.prog 3 := ⟨fun _ => by kernel_rfl, fun _ => by kernel_rfl⟩
instance iTy_7 : ElemT Try.prog 28 5 1 1 (.int .u8 0) := ⟨elemB⟩
instance iTy_8 : ElemT Try.prog 22 78 32 32 (.agg (u8s zeroH.l)) := ⟨⟨Try.underlying22, by kernel_rfl, rfl, by decide⟩⟩
@[simp] theorem nots_len_ (n : Nat) : (nots n).length = n := nots_len n
/-- one digest as a slice of its own -/
theorem run_oneH (hh : H32) (w : World) : (Instr.buildSlice 22 1 #[(0, .agg (u8s hh.l))]).run Try.prog w = .ok (.slice (some ⟨w.heap.size, 0, none⟩) 1 1) (w.alloc (.cells (u8s hh.l) 78)) := by
  have hs := hh.size
  have hz : ∀ w, (zeroValue 78).run Try.prog w = .ok (.agg (u8s (nots 32))) w := fun _ => by kernel_rfl
  have hi : ∀ w, (sizeOf 78).run Try.prog w = .ok 32 w := fun _ => by kernel_rfl
  unfold Instr.buildSlice
  simp only [Sem.run_bind, run_underlying Try.underlying22, Result.andThen_ok, hi]
  have hf : Instr.fill (fun i => some (i * 32, 32)) ((Array.range (1 * 32)).map ((u8s (nots 32))[· % (u8s (nots 32)).size]!)) [(0, Value.agg (u8s hh.l))] = some (u8s hh.l) := by
    rw [fill_step _ _ 0 (.agg (u8s hh.l)) [] (off := 0) (size := 32) rfl hs (by simp), lay_whole _ _ (by show (u8s hh.l).size = _; rw [hs]; simp)]
    rfl
  simp [hz, Value.cells, hf, newRow]
/-- the digest of bytes -/
def shaH (xs : List UInt8) : H32 := ⟨sha xs, sha_len xs⟩
end Go.Proofs.Ythcleccofccbdaa
end
section
open Go Go.RowKit
namespace Go.Proofs.Ythcleccofccbdaa
instance iTyW_1 : CellT Try.prog 218 := ⟨fun _ => by kernel_rfl, fun _ => by kernel_rfl⟩
instance iTyW_2 : CellT Try.prog 89 := ⟨fun _ => by kernel_rfl, fun _ => by kernel_rfl⟩
instance iTyW_3 : CellT Try.prog 157 := ⟨fun _ => by kernel_rfl, fun _ => by kernel_rfl⟩
instance iTyW_4 : CellT Try.prog 216 := ⟨fun _ => by kernel_rfl, fun _ => by kernel_rfl⟩
instance iTyW_5 : ElemT Try.prog 216 157 1 8 .nilFunc := ⟨⟨Try.underlying216, by kernel_rfl, rfl, by decide⟩⟩
instance iTyW_6 : CellT Try.prog 255 := ⟨fun _ => by kernel_rfl, fun _ => by kernel_rfl⟩
instance iTyW_7 : CellT Try.prog 28 := ⟨fun _ => by kernel_rfl, fun _ => by kernel_rfl⟩
instance iTyW_8 : CellT Try.prog 3 := ⟨fun _ => by kernel_rfl, fun _ => by kernel_rfl⟩
instance iTyW_9 : RowT Try.prog 78 32 := ⟨by kernel_rfl, _, Try.underlying78, rfl⟩
instance iTyW_10 : RowT Try.prog 111 35 := ⟨by kernel_rfl, _, Try.underlying111, rfl⟩
instance iTyW_11 : ZeroT Try.prog 155 #[.slice none 0 0] := ⟨.agg #[.slice none 0 0], fun _ => by kernel_rfl, rfl⟩
instance iTyW_12 : CellT Try.prog 5 := ⟨fun _ => by kernel_rfl, fun _ => by kernel_rfl⟩
instance iTyW_13 : CellT Try.prog 4 := ⟨fun _ => by kernel_rfl, fun _ => by kernel_rfl⟩
instance iTyW_14 : CellT Try.prog 9 := ⟨fun _ => by kernel_rfl, fun _ => by kernel_rfl⟩
instance iTyW_15 : ElemT Try.prog 28 5 1 1 (.int .u8 0) := ⟨⟨Try.underlying28, by kernel_rfl, rfl, by decide⟩⟩
end Go.Proofs.Ythcleccofccbdaa
end
section
open Go Go.RowKit
namespace Go.Proofs.Ythcleccofccbdaa
instance iEq_1 : DecidableEq H32 := fun a b => decidable_of_iff (a.l = b.l) ⟨H32.ext', congrArg _⟩
theorem beq_hash (a b : H32) : (a.l == b.l) = decide (a = b) := by
  rw [Bool.eq_iff_iff]
  simp only [beq_iff_eq, decide_eq_true_eq]
  exact ⟨H32.ext', fun h => by rw [h]⟩
theorem neqH (a b : H32) (w : World) : (binOp .neq 78 (.agg (u8s a.l)) (.agg (u8s b.l))).run Try.prog w = .ok (.bool (!decide (a = b))) w := by
  rw [← beq_hash, run_neq_struct]
  have h := run_equalIn_bytes (P := Try.prog) w 9998 78 5 32 Try.underlying78 Try.underlying5 Try.sizeOf5 a.l b.l a.len b.len
  show ((Op.equalIn 10000 78 (.agg (u8s a.l)) (.agg (u8s b.l))).run Try.prog w).andThen _ = _
  have e : (Op.equalIn 10000 78 (.agg (u8s a.l)) (.agg (u8s b.l))).run Try.prog w = .ok (a.l == b.l) w := h
  rw [e]
  rfl
end Go.Proofs.Ythcleccofccbdaa
end
section
open Go Go.RowKit Go.Maps Go.MapKept Go.ChangeMaps Go.WideShapes Go.WideMaps
namespace Go.Proofs.Ythcleccofccbdaa
/-- an element stands as it is -/
def heldE : Value → Option (DataW Value × List MemPlace) := fun v => some (.held v, [])
theorem ownsMap_tight {P : Program} {kt : TypeId} {H : Type} {R : Value → Option (DataW H × List MemPlace)} {w : World} {b n : Nat} {D : DataW H} (h : w.ownsMap P kt R b n D) : w.ownsMap P kt R b (Maps.size D) D := by
  obtain ⟨es, clock, hb, F, hs, rfl⟩ := h
  exact ⟨es, clock, hb, F, by simp [Maps.size, length_sorted], rfl⟩
theorem ownsMap_chgI {H : Type} {P : Program} {k : TypeId} {R : Value → Option (DataW H × List MemPlace)} {w w' : World} {S : Nat → Prop} {b n : Nat} {D : DataW H} (h : w.ownsMap P k R b n D) (hc : Chg S w w') (hS : ¬ S b) : w'.ownsMap P k R b n D := by
  have hlt := h.lt
  obtain ⟨es, clock, hb, r⟩ := h
  exact ⟨es, clock, (hc.block b hlt hS).trans hb, r⟩
theorem turned_chgI {w w' : World} {b : Nat} (h : w.mapTurned w' b) : Chg (only b) w w' := by
  obtain ⟨es, clock, es', clock', hb, rfl⟩ := h
  refine ⟨rfl, rfl, rfl, by simp [setBlock], fun x hx hn => heap_setBlock_other hb _ (fun e => hn e)⟩
theorem mapM_all {α β : Type} {f : α → Option β} {g : α → β} : ∀ (l : List α), (∀ x ∈ l, f x = some (g x)) → l.mapM f = some (l.map g)
  | [], _ => rfl
  | x :: l, h => by
    rw [List.mapM_cons, h x (by simp), mapM_all l (fun y hy => h y (by simp [hy]))]
    rfl
/-- the type of the keys is a digest's -/
class HashKey (P : Program) (kt : TypeId) (e : outParam TypeId) : Prop where
  arr : ArrKey P kt e 32
  elem : P.underlying e = some (.int .u8)
  size : ∃ m, P.types.size = m + 1
section
variable {P : Program} {kt e : TypeId}
theorem HashKey.at (K : HashKey P kt e) (h : H32) : ∃ s, keyOf P kt (.agg (u8s h.l)) = some (.string s) := by
  obtain ⟨m0, hm0⟩ := K.size
  have hkt := K.arr.keyType K.size
  have hsz : (u8s h.l).size = 32 := H32.size h
  unfold keyOf
  simp only [K.arr.hu]
  rw [if_pos (by simp [hkt, Value.formed, K.arr.hu, K.arr.size, hsz]), hm0]
  unfold Program.keyLits
  simp only [K.arr.hu, Value.cells]
  rw [if_pos (by rw [K.arr.size]; simpa using hsz)]
  rw [mapM_all (g := fun i => [Lit.int .u8 ((bget h.l i).toNat : Int)])]
  · exact ⟨_, rfl⟩
  · intro i hi
    have hi' : i < 32 := by simpa using hi
    have hd : ((u8s h.l).toList.drop (i * P.cellsOf e)).take (P.cellsOf e) = [.int .u8 ((bget h.l i).toNat : Int)] := by
      have hl : i < h.l.length := by rw [h.len]; exact hi'
      rw [K.arr.one, Nat.mul_one, List.take_one]
      have h1 : (u8s h.l).toList[i]? = some (.int .u8 ((bget h.l i).toNat : Int)) := by
        simp [u8s, bs, u8v, bget, List.getD_eq_getElem?_getD, List.getElem?_eq_getElem hl]
      rw [List.head?_drop, h1]
      rfl
    rw [hd]
    unfold Program.keyLits
    simp only [K.elem]
    have h8 := (bget h.l i).toNat_lt
    simp [Lit.wf, IntKind.min, IntKind.max, IntKind.signed, IntKind.bits]
    omega
/-- a digest as a key -/
def hkeyL (P : Program) (kt : TypeId) (h : H32) : Lit := (keyOf P kt (.agg (u8s h.l))).getD (.bool false)
theorem HashKey.key (K : HashKey P kt e) (h : H32) : keyOf P kt (.agg (u8s h.l)) = some (hkeyL P kt h) := by
  obtain ⟨s, hs⟩ := K.at h
  rw [hkeyL, hs]
  rfl
theorem HashKey.inj (K : HashKey P kt e) {a b : H32} (h : hkeyL P kt a = hkeyL P kt b) : a = b := by
  have h1 := K.arr.law.inj (K.key a) (by rw [h]; exact K.key b)
  have h2 : u8s a.l = u8s b.l := by injection h1
  have h3 : bs a.l = bs b.l := by
    have := congrArg Array.toList h2
    simpa [u8s, bs] using this
  exact H32.ext' (bs_inj h3)
theorem HashKey.isKey (K : HashKey P kt e) (h : H32) : WideAt.IsKeyLit (hkeyL P kt h) := by
  obtain ⟨s, hs⟩ := K.at h
  rw [hkeyL, hs]
  trivial
/-- block g is a set of m digests: those of which f says so -/
def MapH (P : Program) (kt : TypeId) (w : World) (g m : Nat) (f : H32 → Bool) : Prop :=
  ∃ D : DataW Value, w.ownsMap P kt heldE g m D ∧ Maps.size D = m ∧ ∀ h : H32, Maps.has D (hkeyL P kt h) = f h ∧ D.atKey (hkeyL P kt h) (.held (.agg #[])) = .held (.agg #[])
variable {et mt : TypeId} {w w' : World} {g m : Nat} {S : Nat → Prop} {f : H32 → Bool}
theorem MapH.lt (h : MapH P kt w g m f) : g < w.heap.size := by
  obtain ⟨D, h1, _⟩ := h
  exact h1.lt
theorem MapH.chg (h : MapH P kt w g m f) (hc : Chg S w w') (hS : ¬ S g) : MapH P kt w' g m f := by
  obtain ⟨D, h1, h2⟩ := h
  exact ⟨D, ownsMap_chgI h1 hc hS, h2⟩
theorem MapH.made (w : World) : MapH P kt (w.alloc (.map #[] 0)) w.heap.size 0 (fun _ => false) :=
  ⟨_, World.ownsMap_made w P kt _, rfl, fun _ => ⟨rfl, rfl⟩⟩
theorem MapH.put (h : MapH P kt w g m f) (K : HashKey P kt e) (ht : P.underlying mt = some (.map kt et)) (hn : m < maxLen) (x : H32) :
    ∃ w', (Instr.mapUpdate mt (.map (some g)) (.agg (u8s x.l)) (.agg #[])).run P w = .ok () w' ∧ MapH P kt w' g (if f x then m else m + 1) (fun y => decide (y = x) || f y) ∧ Chg (only g) w w' := by
  obtain ⟨D, h1, h3, h2⟩ := h
  obtain ⟨w', hrun, ho, htn⟩ := h1.store (Keyed.of_law K.arr.law) ht hn (K.key x) (val := .agg #[]) (d := .held (.agg #[])) (ps := []) rfl
  have hsz : Maps.size (D.put (hkeyL P kt x) (.held (.agg #[]))) = if f x then m else m + 1 := by
    rw [Maps.size_put (h1.tidy (Keyed.of_law K.arr.law)), (h2 x).1, h3]
  refine ⟨w', hrun, ⟨_, hsz ▸ ownsMap_tight ho, hsz, fun y => ?_⟩, turned_chgI htn⟩
  by_cases hy : y = x
  · subst hy
    exact ⟨by rw [Maps.has_put_same h1.isMap (K.isKey y)]; simp, Maps.atKey_put_same h1.isMap (K.isKey y) _ _⟩
  · have hne : hkeyL P kt y ≠ hkeyL P kt x := fun e => hy (K.inj e)
    exact ⟨by rw [Maps.has_put_other hne, (h2 y).1]; simp [hy], by rw [Maps.atKey_put_other hne]; exact (h2 y).2⟩
end
/-- the set, as a fact of memory -/
class HMH (P : Program) (kt : outParam TypeId) (w : World) (g : Nat) (m : outParam Nat) (f : outParam (H32 → Bool)) : Prop where
  out : MapH P kt w g m f
/-- what the table says of a set's types -/
class MapHT (P : Program) (mt : TypeId) (kt : outParam TypeId) : Prop where
  key : ∃ e, HashKey P kt e
  under : ∃ et, P.underlying mt = some (.map kt et) ∧ ∀ w, (zeroValue et).run P w = .ok (.agg #[]) w
section
variable {P : Program} {kt mt : TypeId}
instance HMH.step (S : Nat → Prop) (w w' : World) (g m : Nat) (f : H32 → Bool) [s : Step S w w'] [h : HMH P kt w g m f] [o : OffB S g] : HMH P kt w' g m f := ⟨h.out.chg s.chg o.out⟩
variable {ops : Array Oper} {rest : List Oper} {a : Act} {w : World} {Q : Exit → Act → World → Prop} {dst : Option Tmp} {ty : TypeId} {pos : String} {after : Array Edge}
end
end Go.Proofs.Ythcleccofccbdaa
end
section
open Go Go.RowKit
namespace Go.Proofs.Ythcleccofccbdaa
/-- one step of a chain -/
def walkRow (chain : Int) (i : Nat) (h : H32) : List UInt8 := 1 :: b8 chain :: b8 i :: h.l
def stepH (chain : Int) (i : Nat) (h : H32) : H32 := shaH (walkRow chain i h)
/-- n steps from one on -/
def walkN (chain : Int) : Nat → Nat → H32 → H32
  | _, 0, h => h
  | i, n + 1, h => walkN chain (i + 1) n (stepH chain i h)
def walkS (chain f t : Int) (h : H32) : H32 := walkN chain (max f 0).toNat (min t 3 - max f 0).toNat h
end Go.Proofs.Ythcleccofccbdaa
end
section
open Go Go.RowKit
namespace Go.Proofs.Ythcleccofccbdaa
def joinH (l : List H32) : List UInt8 := l.flatMap (·.l)
def closedS (l : List H32) : H32 := shaH (2 :: joinH l)
end Go.Proofs.Ythcleccofccbdaa
end
section
open Go Go.RowKit
namespace Go.Proofs.Ythcleccofccbdaa
def secretRow (seed : H32) (leaf chain : Int) : List UInt8 := 0 :: (seed.l ++ [b8 leaf, b8 chain])
def secretS (seed : H32) (leaf chain : Int) : H32 := shaH (secretRow seed leaf chain)
/-- a function of a digest and a place -/
def mapH (g : H32 → Nat → H32) (l : List H32) (k : Nat) : List H32 := (List.range k).map fun i => g (hget l i) i
/-- so many are walked, the others are noughts -/
def doneH (g : H32 → Nat → H32) (l : List H32) (n k : Nat) : List H32 := mapH g l k ++ List.replicate (n - k) zeroH
end Go.Proofs.Ythcleccofccbdaa
end
section
open Go Go.RowKit
namespace Go.Proofs.Ythcleccofccbdaa
instance iOtD_1 : ZeroT Try.prog 250 (i64s (List.replicate 36 0)) := ⟨.agg (i64s (List.replicate 36 0)), fun _ => by kernel_rfl, rfl⟩
instance iOtD_2 : RowT Try.prog 250 36 := ⟨by kernel_rfl, _, Try.underlying250, rfl⟩
def secretsS (seed : H32) (leaf : Int) : List H32 := mapH (fun _ i => secretS seed leaf i) (List.replicate 36 zeroH) 36
/-- a digit out of a byte -/
def digI (b : UInt8) (k : Nat) : Int := bits BinOp.and IntKind.i64 (wrap64 ((b.toNat : Int) / 2 ^ (6 - 2 * (k % 4)))) 3
/-- the first digits, and what is left over by them -/
def digs (h : H32) (k : Nat) : List Int := (List.range k).map fun i => digI (bget h.l (i / 4)) i
def left (h : H32) : Nat → Int
  | 0 => 0
  | k + 1 => left h k + (3 - digI (bget h.l (k / 4)) k)
def digZ (ds : List Int) : List Int := ds ++ List.replicate (36 - ds.length) 0
/-- the last four -/
def lastD : Nat → Int → List Int
  | 0, _ => []
  | n + 1, q => lastD n q ++ [q / 4 ^ n % 4]
def digitsS (xs : List UInt8) : List Int := digs (shaH xs) 32 ++ lastD 4 (left (shaH xs) 32)
end Go.Proofs.Ythcleccofccbdaa
end
section
open Go Go.RowKit
namespace Go.Proofs.Ythcleccofccbdaa
def publicS (seed : H32) (leaf : Int) : H32 := closedS (mapH (fun h i => walkS i 0 3 h) (secretsS seed leaf) 36)
def signS (seed : H32) (leaf : Int) (m : List UInt8) : List H32 := mapH (fun h i => walkS i 0 (iget (digitsS m) i) h) (secretsS seed leaf) 36
def recoverS (m : List UInt8) (l : List H32) : H32 := closedS (mapH (fun h i => walkS i (iget (digitsS m) i) 3 h) l 36)
instance iOtP_1 : ZeroT Try.prog 277 (i64s (List.replicate 36 0)) := ⟨.agg (i64s (List.replicate 36 0)), fun _ => by kernel_rfl, rfl⟩
instance iOtP_2 : RowT Try.prog 277 36 := ⟨by kernel_rfl, _, Try.underlying277, rfl⟩
end Go.Proofs.Ythcleccofccbdaa
end
section
open Go Go.RowKit
namespace Go.Proofs.Ythcleccofccbdaa
def nodeOf (a b : List UInt8) : List UInt8 := sha (3 :: (a ++ b))
theorem nodeOf_len (a b : List UInt8) : (nodeOf a b).length = 32 := sha_len _
end Go.Proofs.Ythcleccofccbdaa
end
section
open Go Go.RowKit
namespace Go.Proofs.Ythcleccofccbdaa
end Go.Proofs.Ythcleccofccbdaa
end
section
open Go Go.RowKit
namespace Go.Proofs.Ythcleccofccbdaa
end Go.Proofs.Ythcleccofccbdaa
end
section
open Go Go.RowKit
namespace Go.Proofs.Ythcleccofccbdaa
theorem u8_or_128' (m : Nat) : Value.int .u8 (bits .or .u8 ((m : Int) % 128) 128) = u8v (UInt8.ofNat (m % 128 + 128)) := by
  have h := u8_or_128 (m % 128)
  rw [show (((m % 128 : Nat) : Int) % 256) = (m : Int) % 128 by omega, Nat.mod_mod] at h
  exact h
theorem u64_and127 (m : Nat) (h : m < 18446744073709551616) : bits .and .u64 (m : Int) 127 = ((m % 128 : Nat) : Int) := by
  rw [show (127 : Int) = ((127 : Nat) : Int) from rfl, u64_and_nat m 127 h (by decide), nat_mask7]
set_option maxRecDepth 100000 in
set_option maxHeartbeats 400000 in
theorem refNum_calls (v : Int) (w : World) :
    Calls Try.prog 63 #[.int .i64 v] w fun e w' => ∃ A n c, e = .returned (.slice A n c) ∧ Hid (Fresh w w' A n c (enc (clampN v))) := by
  have hle := clampN_le v
  have HLEN := Lib.hid (enc_len (clampN v) hle)
  have hcl : (v ≤ 0 ∧ clampN v = 0) ∨ ((0 < v ∧ v ≤ 4611686018427387904) ∧ (clampN v : Int) = v) ∨ (4611686018427387904 < v ∧ clampN v = 4611686018427387904) := by
    unfold clampN; omega
  obtain ⟨N, hN⟩ : ∃ N, N = clampN v := ⟨_, rfl⟩
  rw [← hN] at hcl hle HLEN ⊢
  have hN9 : N ≤ 9223372036854775807 := by omega
  clear hN hle
  rcases hcl with ⟨hv, hcl⟩ | ⟨⟨hv, hv2⟩, hcl⟩ | ⟨hv, hcl⟩
  all_goals
    have HCL := Lib.hid hcl
    clear hcl
    go_enter Try.func63, Try.ntmps63
    go_wp2_with fail
    go_loopw [3, 4] (fun t u wr => ∃ (m : Nat) (A1 : Option Addr) (n1 c1 : Nat) (pre : List UInt8), m ≤ N ∧ t = .int .u64 m ∧ u = .slice A1 n1 c1 ∧ Fresh w wr A1 n1 c1 pre ∧ pre ++ enc m = enc N) (fun t _ _ => (intOf t).toNat)
    case atStart => exact ⟨N, none, 0, 0, [], Nat.le_refl _, by have := HCL.out; first | (rw [this]; rfl) | (rw [this]; go_num) | (rw [← this]), rfl, Fresh.nil _, rfl⟩
    case round =>
      obtain ⟨m, A1, n1, c1, pre, hm, rfl, rfl, hfr, henc⟩ := hrel
      have hpre : pre.length ≤ 9 := by have h1 := congrArg List.length henc; have h2 := HLEN.out; simp at h1; omega
      have hm64 : m < 18446744073709551616 := by omega
      have HF := Lib.hid hfr
      have HENC := Lib.hid henc
      have HB : Hid (n1 + 1 ≤ lim) := hid_lim (by rw [hfr.len]; omega)
      have q1 := u64_and127 m hm64
      clear hfr henc hm64
      by_cases hlt : m < 128
      · have e1 : (m : Int) < 128 := by omega
        go_wp2_with (at_builtin; refine wpList_append_one rfl (.tmp 22) (.tmp 25) elemB rfl (Nat.le_refl _) rfl (HF.out.own.alloc _) rfl (Rd.lit _ [_] _) rfl HB ?_)
        intro A2 c2 w2 hown2 hchg2 hA2
        rw [u8_low m hlt, show bs pre ++ [u8v (UInt8.ofNat m)] = bs (pre ++ [UInt8.ofNat m]) by simp [bs]] at hown2
        have HP := Lib.hid (HF.out.push ((Chg.refl nowhere wr).alloc _) hchg2 hown2 (by rw [HF.out.len]; simp) (hA2.imp id fun h => ⟨_, h, by omega⟩))
        clear hown2 hchg2 hA2
        go_wp2_with fail
        go_ret
        refine ⟨A2, n1 + 1, c2, rfl, ?_⟩
        have := HENC.out
        rw [enc_small hlt] at this
        rw [← this]
        exact HP.out
      · have e1 : 128 ≤ (m : Int) := by omega
        go_wp2_with (at_builtin; refine wpList_append_one rfl (.tmp 13) (.tmp 18) elemB rfl (Nat.le_refl _) rfl (HF.out.own.alloc _) rfl (Rd.lit _ [_] _) rfl HB ?_)
        intro A2 c2 w2 hown2 hchg2 hA2
        rw [u8_or_128' m, show bs pre ++ [u8v (UInt8.ofNat (m % 128 + 128))] = bs (pre ++ [UInt8.ofNat (m % 128 + 128)]) by simp [bs]] at hown2
        have HP := Lib.hid (HF.out.push ((Chg.refl nowhere wr).alloc _) hchg2 hown2 (by rw [HF.out.len]; simp) (hA2.imp id fun h => ⟨_, h, by omega⟩))
        clear hown2 hchg2 hA2
        go_wp2_with fail
        have := HENC.out
        rw [enc_large hlt] at this
        exact ⟨⟨m / 128, A2, n1 + 1, c2, pre ++ [UInt8.ofNat (m % 128 + 128)], by omega, by go_num, rfl, HP.out, by rw [← this, List.append_assoc]; rfl⟩, by simp [intOf]; omega⟩
end Go.Proofs.Ythcleccofccbdaa
end
section
open Go Go.RowKit
namespace Go.Proofs.Ythcleccofccbdaa
instance cellEqWR : CellT Try.prog 22 := ⟨fun _ => by kernel_rfl, fun _ => by kernel_rfl⟩
end Go.Proofs.Ythcleccofccbdaa
end
section
open Go Go.RowKit
namespace Go.Proofs.Ythcleccofccbdaa
end Go.Proofs.Ythcleccofccbdaa
end
section
open Go Go.RowKit
namespace Go.Proofs.Ythcleccofccbdaa
set_option maxRecDepth 100000 in
set_option maxHeartbeats 400000 in
theorem refBytes_calls (A : Option Addr) (n c : Nat) (xs : List UInt8) (w : World) (hr : Rd w A (bs xs)) (hn : xs.length = n) (hx : n ≤ 1000000000) :
    Calls Try.prog 71 #[.slice A n c] w fun e w' => ∃ A' n' c', e = .returned (.slice A' n' c') ∧ Hid (Fresh w w' A' n' c' (encRow xs)) := by
  have HR := Lib.hid hr
  have HN := Lib.hid hn
  have hn9 : n ≤ 9223372036854775807 := by omega
  have HX := Lib.hid hx
  have HM : Hid ((bs xs).length = n) := Lib.hid (by rw [bs_length]; exact hn)
  clear hr hn hx
  go_enter Try.func71, Try.ntmps71
  go_wp2_with fail
  refine (refNum_calls (n : Int) _).mono ?_
  rintro e w1 ⟨A2, n2, c2, rfl, h2⟩
  have hcl : clampN (n : Int) = xs.length := by rw [HN.out]; exact clampN_nat n (by have := HX.out; omega)
  rw [hcl] at h2
  have HB : Hid (n2 + n ≤ lim) := hid_lim (by
    have h4 := h2.out.len
    have h6 := enc_len xs.length (by rw [HN.out]; have := HX.out; omega)
    have h7 := HX.out
    omega)
  clear hcl
  go_wp2_with (at_builtin; refine wpList_append_many rfl (.tmp 5) (.tmp 6) elemB rfl (Nat.le_refl _) rfl h2.out.own rfl (HR.out.later h2.out.chg) HM (bs_one _) HB ?_)
  intro A3 c3 w3 hown3 hchg3 hA3
  rw [bs_append] at hown3
  have HP := Lib.hid (h2.out.push (Chg.refl nowhere _) hchg3 hown3 (by rw [h2.out.len, ← HN.out]; simp) (hA3.imp id fun h => ⟨_, h, Nat.le_refl _⟩))
  clear hown3 hchg3 hA3
  go_wp2_with fail
  go_ret
  exact ⟨A3, n2 + n, c3, rfl, HP⟩
end Go.Proofs.Ythcleccofccbdaa
end
